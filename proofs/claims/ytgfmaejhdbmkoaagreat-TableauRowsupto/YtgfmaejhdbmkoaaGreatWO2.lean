import Derived.Test.YtgfmaejhdbmkoaaGreatWL6
import Derived.Test.YtgfmaejhdbmkoaaGreatWQB
import Derived.Test.YtgfmaejhdbmkoaaGreatWQE
import Derived.Test.YtgfmaejhdbmkoaaGreatWO0
import Derived.Test.YtgfmaejhdbmkoaaGreatWN5
import Derived.Laws.OwnMore
set_option linter.unusedSimpArgs false
namespace Go.Proofs.YtgfmaejhdbmkoaaGreat
open Go.RowKit
set_option linter.unusedVariables false
theorem PrInv.below {w:World} {v:Nat→Int} {f g:Nat→RatV} {m N k:Nat} {vo:Value} {wr:World} (h:PrInv w v f g m N k vo wr):Below w.heap.size w wr:=by
 obtain ⟨j,q,hj,hO,hB,hE,hq⟩:=h
 exact hB
theorem PrInv.slice {w:World} {v:Nat→Int} {f g:Nat→RatV} {m N k:Nat} {vo:Value} {wr:World} (h:PrInv w v f g m N k vo wr):∃ a j cap,vo=.slice a j cap:=by
 obtain ⟨j,q,hj,hO,hB,hE,hq⟩:=h
 obtain ⟨a,cap,e,_⟩:=own_rats hO
 exact ⟨a,j,cap,e⟩
theorem PrInv.open {w:World} {v:Nat→Int} {f g:Nat→RatV} {m N k:Nat} {a:Option Addr} {j cap:Nat} {wr:World} (h:PrInv w v f g m N k (.slice a j cap) wr):∃ q:Nat→RatV,j≤k∧j≤cap∧cap≤9223372036854775807∧RatsAt wr a j q∧(∀ i,i < j→(q i).ok wr∧(q i).low∧(q i).n+(q i).m+1≤N)∧Eqv (lq q j) (prods v f g m k):=by
 obtain ⟨j',q,hj,hO,hB,hE,hq⟩:=h
 obtain ⟨a',cap',e,h1,h2,h3⟩:=own_rats hO
 simp only [Value.slice.injEq] at e
 obtain ⟨rfl,rfl,rfl⟩:=e
 exact ⟨q,hj,h1,by simpa [maxLen] using h2,h3,fun i hi=>⟨(hq i hi).1,(hq i hi).2.1,(hq i hi).2.2.1⟩,hE.1⟩
set_option maxHeartbeats 2000000 in
set_option maxRecDepth 100000 in
theorem vlzero_is (w:World):Calls Tryz.prog 45 #[] w fun e w'=>∃ p q,e=.returned (.agg #[.bool false,.slice p 0 0,.slice q 1 1])∧New w w' p 0 0∧New w w' q 1 1:=by
 have G2':=fun w'=>vqWhole_is 0 w' (by omega) (by omega)
 have z1:ng 0=false:=rfl
 have z2:ln (am 0)=0:=xX7
 have z3:am 0=0:=rfl
 rw [z1,z2,ln_one,z3] at G2'
 have G2:=xQ1 G2'
 clear G2' z1 z2 z3
 go_enter Tryz.func45,Tryz.ntmps45
 go_wp2_with fail
 obtain ⟨W,hW⟩:∃ W,(w.alloc (.cells #[.bool false,.slice none 0 0,.slice none 0 0] 55))=W:=⟨_,rfl⟩
 have r00:W.cell? ⟨w.heap.size,0,none⟩=some (.bool false):=by subst hW;go_simp
 have r01:W.cell? ⟨w.heap.size,1,none⟩=some (.slice none 0 0):=by subst hW;go_simp
 have r02:W.cell? ⟨w.heap.size,2,none⟩=some (.slice none 0 0):=by subst hW;go_simp
 have hB:Below w.heap.size w W:=by subst hW;exact ((Below.refl _ _).alloc (by (try simp only [World.size_alloc]);omega) _)
 have hR0:Row W (w.heap.size):=by
  have:=xQ9 (w) #[.bool false,.slice none 0 0,.slice none 0 0] 55
  try simp only [World.size_alloc] at this
  subst hW;exact this
 have hz:W.heap.size=w.heap.size+1:=by subst hW;simp only [World.size_alloc]
 rw [hW]
 clear hW
 have hBW:Below W.heap.size W W:=Below.refl _ _
 refine (G2.out _).mono ?_
 rintro e w1 ⟨p1,q1,rfl,hp1,hq1⟩
 have b1:=hp1.below
 replace hp1:=hp1.back hBW
 replace hq1:=hq1.back hBW
 replace hBW:=hBW.trans (b1.mono hBW.size)
 replace r00:=xQ0 b1 r00
 replace r01:=xQ0 b1 r01
 replace r02:=xQ0 b1 r02
 replace hR0:=xQ3 b1 hR0
 have fz0:=fun o=>hR0.frozen o
 go_wp2
 all_goals refine bodyPost_ret (v:=Value.agg #[Value.bool false,Value.slice p1 0 0,Value.slice q1 1 1]) (by rw [xQ5 rfl];go_simp) rfl ?_
 all_goals exact ⟨p1,q1,rfl,hp1.mid hB (((((Mid.refl _ _ _).set _ _ (by omega) (by omega) _).set _ _ (by omega) (by omega) _).set _ _ (by omega) (by omega) _)),hq1.mid hB (((((Mid.refl _ _ _).set _ _ (by omega) (by omega) _).set _ _ (by omega) (by omega) _).set _ _ (by omega) (by omega) _))⟩
def FrAns (w:World) (r:Rat) (e:Ending) (w':World):Prop :=
 ∃ p q,e=.returned (.agg #[.bool (ng r.num),.slice p (ln (am r.num)) (ln (am r.num)),.slice q (ln r.den) (ln r.den)])∧Below w.heap.size w w'∧Seg w' p (am r.num) (ln (am r.num))∧Seg w' q r.den (ln r.den)∧Fresh w p (ln (am r.num))∧Fresh w q (ln r.den)
def CInv (w:World) (rb c:Nat) (s:Rat) (wr:World):Prop :=
 ∃ (p p':Option Addr),Thr wr c (.bool (ng s.num)) (.slice p (ln (am s.num)) (ln (am s.num))) (.slice p' (ln s.den) (ln s.den))∧Thr wr rb (.bool false) (.slice none 0 0) (.slice none 0 0) ∧
  Seg wr p (am s.num) (ln (am s.num))∧Seg wr p' s.den (ln s.den)∧Fresh w p (ln (am s.num))∧Fresh w p' (ln s.den)∧Below w.heap.size w wr
theorem co_snoc (x:Int) (l:Fo) (p:Int × Rat):co x (l ++ [p])=co x l+(if p.1=x then p.2 else 0):=by
 rw [co_append]
 simp only [co]
 rw [Rat.add_zero]
theorem wts_take (L:List Mo) (k:Nat):wts (fo (L.take k))≤wts (fo L):=by
 have h:fo L=fo (L.take k) ++ fo (L.drop k):=by rw [←xZ1,List.take_append_drop]
 rw [h,wts_append]
 omega
theorem low_addN (s:Rat) (q:RatV):Low (rn (ng s.num) (am s.num) s.den*(rd q.Y:Nat)+rn q.s q.X q.Y*(rd s.den:Nat)) ((rd s.den:Nat)*(rd q.Y:Nat)) (s+q.val).num (s+q.val).den:=by
 have h:=low_add (RatV.of s.num s.den none none) q
 rw [val_ofR] at h
 exact h
set_option maxHeartbeats 4000000 in
set_option maxRecDepth 100000 in
theorem vlCoefF_is (a:Option Addr) (cap:Nat) (L:List Mo) (x:Int) (w:World) (hF:FAt w a L) (hok:∀ p∈L,p.2.ok w∧p.2.n≤1099511627776∧p.2.m≤1099511627776) (hc:L.length≤cap) (hm:L.length≤1048576) (hw:∀ k,sz 1099511627776 (co x (fo (L.take k)))) :
  Calls Tryz.prog 28 #[.slice a L.length cap,.int .i64 x] w (FrAns w (co x (fo L))):=by
 obtain ⟨TT,hTT⟩:∃ TT,co x (fo L)=TT:=⟨_,rfl⟩
 rw [hTT]
 replace hTT:=xQ1 hTT
 go_enter Tryz.func28,Tryz.ntmps28
 go_wp2_with fail
 obtain ⟨W,hW⟩:∃ W,(w.alloc (.cells #[.bool false,.slice none 0 0,.slice none 0 0] 55))=W:=⟨_,rfl⟩
 have r00:W.cell? ⟨w.heap.size,0,none⟩=some (.bool false):=by subst hW;go_simp
 have r01:W.cell? ⟨w.heap.size,1,none⟩=some (.slice none 0 0):=by subst hW;go_simp
 have r02:W.cell? ⟨w.heap.size,2,none⟩=some (.slice none 0 0):=by subst hW;go_simp
 have hB:Below w.heap.size w W:=by subst hW;exact ((Below.refl _ _).alloc (by (try simp only [World.size_alloc]);omega) _)
 have hR0:Row W (w.heap.size):=by
  have:=xQ9 (w) #[.bool false,.slice none 0 0,.slice none 0 0] 55
  try simp only [World.size_alloc] at this
  subst hW;exact this
 have hz:W.heap.size=w.heap.size+1:=by subst hW;simp only [World.size_alloc]
 rw [hW]
 clear hW
 have hBW:Below W.heap.size W W:=Below.refl _ _
 refine (vlzero_is _).mono ?_
 rintro e w1 ⟨p1,q1,rfl,hp1,hq1⟩
 have b1:=hp1.below
 replace hp1:=hp1.back hBW
 replace hq1:=hq1.back hBW
 replace hBW:=hBW.trans (b1.mono hBW.size)
 replace r00:=xQ0 b1 r00
 replace r01:=xQ0 b1 r01
 replace r02:=xQ0 b1 r02
 replace hR0:=xQ3 b1 hR0
 go_wp2_with fail
 obtain ⟨wS,hwS⟩:∃ wS,w1.alloc (.cells #[.bool false,.slice p1 0 0,.slice q1 1 1] 55)=wS:=⟨_,rfl⟩
 have s:Thr wS w1.heap.size (.bool false) (.slice p1 0 0) (.slice q1 1 1):=⟨⟨by subst hwS;go_simp,by subst hwS;go_simp,by subst hwS;go_simp⟩,by subst hwS;exact xQ9 w1 _ 55⟩
 have bS:Below w1.heap.size w1 wS:=by subst hwS;exact xQ2 _
 rw [hwS]
 clear hwS
 have hcr:w.heap.size < w1.heap.size:=hR0.lt
 have hr:Thr wS w.heap.size (.bool false) (.slice none 0 0) (.slice none 0 0):=Thr.later ⟨⟨r00,r01,r02⟩,hR0⟩ bS
 have I0:CInv w w.heap.size w1.heap.size (co x (fo (L.take 0))) wS:=by
  show CInv w w.heap.size w1.heap.size 0 wS
  refine ⟨p1,q1,?_,hr,?_,?_,?_,?_,(hB.trans (hBW.mono hB.size)).trans (bS.mono (Nat.le_of_lt hcr))⟩
  ·show Thr wS w1.heap.size (.bool (ng 0)) (.slice p1 (ln (am 0)) (ln (am 0))) (.slice q1 (ln 1) (ln 1))
   rw [show am 0=0 from rfl,xX7,ln_one];exact s
  ·show Seg wS p1 (am 0) (ln (am 0));rw [show am 0=0 from rfl,xX7];exact Seg.nil _ _
  ·show Seg wS q1 1 (ln 1);rw [ln_one];exact hq1.seg.later bS
  ·show Fresh w p1 (ln (am 0));rw [show am 0=0 from rfl,xX7];exact fun h=>absurd h (by omega)
  ·show Fresh w q1 (ln 1);rw [ln_one];exact hq1.fr.mono hB.size
 generalize w1.heap.size=c at *
 go_loopw [6] (fun vi wr=>∃ k:Nat,k≤L.length∧vi=.int .i64 k∧CInv w w.heap.size c (co x (fo (L.take k))) wr) (fun vi _=>L.length - (intOf vi).toNat)
 case atStart=>exact ⟨0,Nat.zero_le _,rfl,I0⟩
 case round =>
  clear I0 s hr bS hp1 hq1 r00 r01 r02 hR0 hBW hB hz
  obtain ⟨k,hk,rfl,p,p',s,hr,hS,hT,f1,f2,hB⟩:=hrel
  by_cases hlt:k < L.length
  ·obtain ⟨pk,hpk⟩:∃ p,L[k]?=some p:=⟨L[k],List.getElem?_eq_getElem hlt⟩
   obtain ⟨b,off,rfl,hb,hcell⟩:=hF (by intro e;rw [e] at hlt;simp at hlt)
   obtain ⟨c0,c1,c2,c3⟩:=hcell k pk hpk
   replace c0:=xQ0 hB c0
   replace c1:=xQ0 hB c1
   replace c2:=xQ0 hB c2
   replace c3:=xQ0 hB c3
   obtain ⟨hq,l1,l2⟩:=hok pk (List.mem_of_getElem? hpk)
   obtain ⟨t1,t2⟩:=xJ6 hpk
   have hfo:co x (fo (L.take (k+1)))=co x (fo (L.take k))+(if pk.1=x then pk.2.val else 0):=by rw [t1,xZ1];exact co_snoc x _ _
   clear t1 t2 hpk
   have hsz:=hw k
   obtain ⟨y,q⟩:=pk
   simp only at c0 c1 c2 c3 hq l1 l2 hfo
   obtain ⟨sk,hsk⟩:∃ sk,co x (fo (L.take k))=sk:=⟨_,rfl⟩
   rw [hsk] at s hS hT f1 f2 hfo hsz
   clear hsk
   have i0:(0:Int)≤(k:Int):=by omega
   have i1:(k:Int) < (L.length:Int):=by omega
   by_cases hyx:y=x
   ·rw [if_pos hyx] at hfo
    subst hyx
    have GA:=xQ1 (fun w' k1 k2 k3 k4=>vqAdd_is (ng sk.num) p (ln (am sk.num)) (ln (am sk.num)) (am sk.num) p' (ln sk.den) (ln sk.den) sk.den q.s q.a q.n q.c q.X q.b q.m q.e q.Y (sk+q.val).num (sk+q.val).den w' (Nat.le_refl _) (Nat.le_trans hsz.1 (by omega)) k1 (Nat.le_refl _) (Nat.le_trans hsz.2 (by omega)) k2 hq.2.1 (by omega) k3 hq.2.2.2.2.1 (by omega) k4 (low_addN sk q))
    obtain ⟨sn,hsn⟩:∃ sn,sk+q.val=sn:=⟨_,rfl⟩
    rw [hsn] at GA hfo
    clear hsn
    have k3:=hq.1.later hB
    have k4:=hq.2.2.2.1.later hB
    clear hq hcell
    obtain ⟨⟨s0,s1,s2⟩,sR⟩:=s
    go_wp2_with fail
    have bD:Below wr.heap.size wr wr.drew:=(Below.refl _ _).drew
    have kc1:=xQ0 bD c1
    have kc2:=xQ0 bD c2
    have kc3:=xQ0 bD c3
    replace hB:=hB.trans (bD.mono hB.size)
    replace k3:=k3.later bD
    replace k4:=k4.later bD
    replace hS:=hS.later bD
    replace hT:=hT.later bD
    replace hr:=hr.later bD
    replace s0:=xQ0 bD s0
    replace s1:=xQ0 bD s1
    replace s2:=xQ0 bD s2
    replace sR:=xQ3 bD sR
    refine wp_region_held_drew (S:=fun w'=>w'.cell? ⟨b,off+k*4+1,none⟩=some (.bool q.s)∧w'.cell? ⟨b,off+k*4+1+1,none⟩=some (.slice q.a q.n q.c)∧w'.cell? ⟨b,off+k*4+1+2,none⟩=some (.slice q.b q.m q.e)) (by kernel_rfl) ⟨kc1,kc2,kc3⟩ (fun hHeld=>?_)
    clear kc1 kc2 kc3
    generalize wr.drew=w0 at bD k3 k4 hS hT hr s0 s1 s2 sR hB hHeld ⊢
    clear c0 c1 c2 c3 bD
    refine tk 1 (v:=?_) rfl (Or.inl ⟨by rfl,?_⟩) ?_
    rotate_left
    ·intro w9 hSw
     go_simp
     try with_reducible rfl
    simp only [pA]
    refine tk 2 (v:=?_) rfl (Or.inl ⟨by rfl,?_⟩) ?_
    rotate_left
    ·intro w9 hSw
     go_simp
     try with_reducible rfl
    simp only [pA]
    refine tk 3 (v:=?_) rfl (Or.inl ⟨by rfl,?_⟩) ?_
    rotate_left
    ·intro w9 hSw
     go_simp
     try with_reducible rfl
    simp only [pA]
    refine tk 4 (v:=?_) rfl (Or.inl ⟨by rfl,?_⟩) ?_
    rotate_left
    ·intro w9 hSw
     go_simp
     try with_reducible rfl
    simp only [pA]
    refine tk 5 (v:=?_) rfl (Or.inl ⟨by rfl,?_⟩) ?_
    rotate_left
    ·intro w9 hSw
     go_simp
     try with_reducible rfl
    simp only [pA]
    refine wpAnyH_ready (rs:=[0]) (by kernel_rfl) (by simp) ?_
    refine xX0 rfl (fun KK hKK=>?_)
    go_simp
    refine hKK.out _ _ hHeld ?_
    clear hHeld
    intro hHeld
    clear hKK KK
    try simp only [pA]
    refine wpAnyH_ready (rs:=[6]) (by kernel_rfl) (by simp) ?_
    refine xX0 rfl (fun KK hKK=>?_)
    have hsA:=hB.size
    go_simp
    refine (GA.out _ hS hT k3 k4).mono ?_
    rintro e w2 ⟨x1,x2,rfl,n1,n2⟩
    have b2:=n1.below
    replace hB:=hB.trans (b2.mono hB.size)
    replace k3:=k3.later b2
    replace k4:=k4.later b2
    replace hS:=hS.later b2
    replace hT:=hT.later b2
    replace hr:=hr.later b2
    replace s0:=xQ0 b2 s0
    replace s1:=xQ0 b2 s1
    replace s2:=xQ0 b2 s2
    replace sR:=xQ3 b2 sR
    replace hHeld:=(⟨xQ0 b2 hHeld.1,xQ0 b2 hHeld.2.1,xQ0 b2 hHeld.2.2⟩:_∧_∧_)
    go_wp2_with fail
    refine hKK.out _ _ hHeld ?_
    clear hHeld
    intro hHeld
    clear hKK KK
    try simp only [pA]
    refine wpAnyH_ready (rs:=[7]) (by kernel_rfl) (by simp) ?_
    refine xX0 rfl (fun KK hKK=>?_)
    have fz:=fun o=>sR.frozen o
    have vS:Thr w2 c (.bool (ng sk.num)) (.slice p (ln (am sk.num)) (ln (am sk.num))) (.slice p' (ln sk.den) (ln sk.den)):=⟨⟨s0,s1,s2⟩,sR⟩
    have I1:CInv w w.heap.size c sn (set3 w2 c (.bool (ng sn.num)) (.slice x1 (ln (am sn.num)) (ln (am sn.num))) (.slice x2 (ln sn.den) (ln sn.den))):=⟨x1,x2,vS.put,hr.far (by omega),vS.seg (by simp) (by simp) (by simp) n1.seg,vS.seg (by simp) (by simp) (by simp) n2.seg,n1.fr.mono hsA,n2.fr.mono hsA,below_set3 hB (by omega)⟩
    replace I1:=xQ1 I1
    go_simp
    refine hKK.out _ _ ⟨by rw [xJ2 (by omega)];exact hHeld.1,by rw [xJ2 (by omega)];exact hHeld.2.1,by rw [xJ2 (by omega)];exact hHeld.2.2⟩ ?_
    clear hHeld
    intro hHeld
    clear hKK KK
    try simp only [pA]
    refine wpAnyH_done (by kernel_rfl) ?_ _
    go_wp2
    go_roundw
    case rel=>exact ⟨k+1,by omega,by go_num,by rw [hfo];exact I1.out⟩
    case measure=>simp [intOf];omega
   ·rw [if_neg hyx,Rat.add_zero] at hfo
    have I1:CInv w w.heap.size c sk wr:=⟨p,p',s,hr,hS,hT,f1,f2,hB⟩
    replace I1:=xQ1 I1
    have hb1:(y == x)=false:=by simp [hyx]
    go_wp2
    go_roundw
    case rel=>exact ⟨k+1,by omega,by go_num,by rw [hfo];exact I1.out⟩
    case measure=>simp [intOf];omega
  ·obtain rfl:k=L.length:=by omega
   have i1:¬ (L.length:Int) < (L.length:Int):=by omega
   rw [List.take_length] at s hS hT f1 f2
   rw [hTT.out] at s hS hT f1 f2
   generalize TT=sk at *
   obtain ⟨⟨s0,s1,s2⟩,sR⟩:=s
   obtain ⟨⟨r0,r1,r2⟩,rR⟩:=id hr
   have fz0:=fun o=>rR.frozen o
   go_wp2
   all_goals refine bodyPost_ret (v:=Value.agg #[Value.bool (ng sk.num),Value.slice p (ln (am sk.num)) (ln (am sk.num)),Value.slice p' (ln sk.den) (ln sk.den)]) (by rw [xQ5 rfl];go_simp) rfl ?_
   all_goals exact ⟨p,p',rfl,below_set3 hB (Nat.le_refl _),hr.seg (by simp) (by simp) (by simp) hS,hr.seg (by simp) (by simp) (by simp) hT,f1,f2⟩
theorem vlCoef_is (a:Option Addr) (cap:Nat) (L:List Mo) (x:Int) (w:World) (hF:FAt w a L) (hok:∀ p∈L,p.2.ok w∧p.2.n≤1099511627776∧p.2.m≤1099511627776) (hc:L.length≤cap) (hm:L.length≤1048576) (hw:wts (fo L)+1≤1099511627776) :
  Calls Tryz.prog 28 #[.slice a L.length cap,.int .i64 x] w (FrAns w (co x (fo L))) :=
 vlCoefF_is a cap L x w hF hok hc hm fun k=>(co_sz x (fo (L.take k))).mono (by have:=wts_take L k;omega)
def iv (zs:List Int):List Value:=zs.map (Value.int .i64)
theorem iv_append (zs ys:List Int):iv (zs ++ ys)=iv zs ++ iv ys:=List.map_append
theorem iv_at {zs:List Int} {i:Nat} {z:Int} (h:zs[i]?=some z):(iv zs)[i]?=some (.int .i64 z):=by unfold iv;rw [List.getElem?_map,h];rfl
theorem iv_set (zs:List Int) (i:Nat) (z:Int):(iv zs).set i (.int .i64 z)=iv (zs.set i z):=by unfold iv;rw [List.map_set]
def IAt (W:World) (a:Option Addr) (zs:List Int):Prop :=
 zs≠[]→∃ b off,a=some ⟨b,off,none⟩∧b < W.heap.size∧∀ i z,zs[i]?=some z→W.cell? ⟨b,off+i,none⟩=some (.int .i64 z)
theorem IAt.later {w w':World} {a:Option Addr} {zs:List Int} (h:IAt w a zs) (hb:Below w.heap.size w w'):IAt w' a zs:=fun hn=>by
 obtain ⟨b,off,e,hl,hc⟩:=h hn
 exact ⟨b,off,e,Nat.lt_of_lt_of_le hl hb.size,fun i z hi=>xQ0 hb (hc i z hi)⟩
theorem own_ints {w:World} {base:Nat} {e:TypeId} {v:Value} {zs:List Int} (h:w.ownsRow base e 1 v zs.length (iv zs)):∃ a cap,v=.slice a zs.length cap∧zs.length≤cap∧IAt w a zs:=by
 rcases h.2 with ⟨rfl,h0⟩ | ⟨g,cap,cur,rfl,hb,hg,hc,hm,_,_⟩
 ·exact ⟨none,0,by rw [h0],by omega,fun hn=>absurd (List.eq_nil_of_length_eq_zero h0) hn⟩
 ·refine ⟨_,cap,rfl,hc,fun hn=>⟨g,0,rfl,(Array.getElem?_eq_some_iff.1 hg).1,fun i z hi=>?_⟩⟩
  have hil:=(List.getElem?_eq_some_iff.1 hi).1
  have k1:=h.cellAt i (by omega)
  rw [iv_at hi] at k1
  rw [Nat.zero_add]
  exact k1
structure Srt (ys zs:List Int):Prop where
 up:ys.Pairwise (· < ·)
 mem:∀ z,z∈ys↔z∈zs
 len:ys.length≤zs.length
theorem Srt.same {ys zs:List Int} {x:Int} {j:Nat} (h:Srt ys zs) (hj:ys[j]?=some x):Srt ys (zs ++ [x]) :=
 ⟨h.up,fun z=>by
  rw [List.mem_append,List.mem_singleton,←h.mem z]
  constructor
  ·exact Or.inl
  ·rintro (h1 | rfl)
   ·exact h1
   ·exact List.mem_of_getElem? hj,by have:=h.len;rw [List.length_append];omega⟩
theorem Srt.put {ys zs:List Int} {x:Int} {j:Nat} (h:Srt ys zs) (hj:j≤ys.length) (h1:∀ i y,i < j→ys[i]?=some y→y < x) (h2:∀ y,ys[j]?=some y→x < y):Srt (ys.take j ++ x :: ys.drop j) (zs ++ [x]):=by
 have hs:=h.up
 rw [←List.take_append_drop j ys] at hs
 obtain ⟨u1,u2,u3⟩:=List.pairwise_append.1 hs
 have lo:∀ y∈ys.take j,y < x:=fun y hy=>by
  obtain ⟨i,hi⟩:=List.getElem?_of_mem hy
  rw [List.getElem?_take] at hi
  split at hi
  ·exact h1 i y (by assumption) hi
  ·cases hi
 have hi:∀ y∈ys.drop j,x < y:=by
  intro y hy
  cases hd:ys.drop j with
  | nil=>rw [hd] at hy;simp at hy
  | cons y0 t =>
   have e0:ys[j]?=some y0:=by
    have:(ys.drop j)[0]?=some y0:=by rw [hd];rfl
    rwa [List.getElem?_drop,Nat.add_zero] at this
   have h0:=h2 y0 e0
   rw [hd] at hy u2
   rcases List.mem_cons.1 hy with rfl | hy
   ·exact h0
   ·have:=(List.pairwise_cons.1 u2).1 y hy
    omega
 refine ⟨List.pairwise_append.2 ⟨u1,List.pairwise_cons.2 ⟨hi,u2⟩,fun a ha b hb=>?_⟩,fun z=>?_,?_⟩
 ·rcases List.mem_cons.1 hb with rfl | hb
  ·exact lo a ha
  ·exact u3 a ha b hb
 ·rw [List.mem_append,List.mem_cons,List.mem_append,List.mem_singleton,←h.mem z]
  have:=List.take_append_drop j ys
  constructor
  ·rintro (h3 | h3 | h3)
   ·exact Or.inl (List.mem_of_mem_take h3)
   ·exact Or.inr h3
   ·exact Or.inl (List.mem_of_mem_drop h3)
  ·rintro (h3 | h3)
   ·rw [←this,List.mem_append] at h3
    rcases h3 with h3 | h3
    ·exact Or.inl h3
    ·exact Or.inr (Or.inr h3)
   ·exact Or.inr (Or.inl h3)
 ·have:=h.len
  simp only [List.length_append,List.length_take,List.length_cons,List.length_drop,List.length_nil]
  omega
def shf (ys:List Int) (m:Nat):List Int:=(ys ++ [0]).take (m+1) ++ ys.drop m
theorem shf_length {ys:List Int} {m:Nat} (h:m≤ys.length):(shf ys m).length=ys.length+1:=by
 unfold shf
 simp only [List.length_append,List.length_take,List.length_drop,List.length_cons,List.length_nil]
 omega
theorem shf_top (ys:List Int):shf ys ys.length=ys ++ [0]:=by
 unfold shf
 rw [List.drop_length,List.append_nil,List.take_of_length_le (by simp)]
theorem shf_at {ys:List Int} {m:Nat} (h:m < ys.length):(shf ys (m+1))[m]?=ys[m]?:=by
 unfold shf
 rw [List.getElem?_append_left (by simp only [List.length_take,List.length_append,List.length_cons,List.length_nil];omega),List.getElem?_take,if_pos (by omega),List.getElem?_append_left h]
theorem shf_step {ys:List Int} {m:Nat} {z:Int} (h:m < ys.length) (hz:ys[m]?=some z):(shf ys (m+1)).set (m+1) z=shf ys m:=by
 refine List.ext_getElem? fun i=>?_
 rw [List.getElem?_set]
 have e1:(shf ys (m+1)).length=ys.length+1:=shf_length (by omega)
 split
 ·rename_i hi
  subst hi
  rw [if_pos (by omega)]
  unfold shf
  rw [List.getElem?_append_right (by simp only [List.length_take,List.length_append,List.length_cons,List.length_nil];omega),List.getElem?_drop]
  rw [←hz]
  congr 1
  simp only [List.length_take,List.length_append,List.length_cons,List.length_nil]
  omega
 ·rename_i hi
  unfold shf
  rcases Nat.lt_or_ge i (m+1) with h1 | h1
  ·rw [List.getElem?_append_left (by simp only [List.length_take,List.length_append,List.length_cons,List.length_nil];omega),List.getElem?_append_left (by simp only [List.length_take,List.length_append,List.length_cons,List.length_nil];omega),List.getElem?_take,List.getElem?_take,if_pos (by omega),if_pos (by omega)]
  ·rw [List.getElem?_append_right (by simp only [List.length_take,List.length_append,List.length_cons,List.length_nil];omega),List.getElem?_append_right (by simp only [List.length_take,List.length_append,List.length_cons,List.length_nil];omega),List.getElem?_drop,List.getElem?_drop]
   congr 1
   simp only [List.length_take,List.length_append,List.length_cons,List.length_nil]
   omega
theorem shf_put {ys:List Int} {j:Nat} {x:Int} (h:j≤ys.length):(shf ys j).set j x=ys.take j ++ x :: ys.drop j:=by
 have e:(ys ++ [0]).take (j+1)=ys.take j ++ ((ys ++ [0])[j]?).toList:=by
  rw [List.take_add_one,List.take_append_of_le_length h]
 obtain ⟨z,hz⟩:∃ z,(ys ++ [0])[j]?=some z:=⟨_,List.getElem?_eq_getElem (by rw [List.length_append];simp;omega)⟩
 unfold shf
 rw [e,hz]
 simp only [Option.toList]
 rw [List.append_assoc,List.set_append,if_neg (by rw [List.length_take];omega)]
 rw [show j - (ys.take j).length=0 by rw [List.length_take];omega]
 rfl
end Go.Proofs.YtgfmaejhdbmkoaaGreat
