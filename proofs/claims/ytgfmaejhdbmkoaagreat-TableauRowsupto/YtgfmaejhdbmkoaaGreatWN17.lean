import Derived.Test.YtgfmaejhdbmkoaaGreatWN11
set_option linter.unusedSimpArgs false
namespace Go.Proofs.YtgfmaejhdbmkoaaGreat
open Go.RowKit
set_option linter.unusedVariables false
def fine (l:Fo):Prop:=∀ i j x,sz 1099511627776 (co x ((l.drop i).take j))
theorem fine.all {l:Fo} (h:fine l):∀ x,sz 1099511627776 (co x l):=fun x=>by
 have:=h 0 l.length x
 rwa [List.drop_zero,List.take_length] at this
theorem fine.take {l:Fo} (h:fine l) (k:Nat):fine (l.take k):=fun i j x=>by
 rw [List.drop_take,List.take_take]
 exact h i _ x
theorem fine.drop {l:Fo} (h:fine l) (k:Nat):fine (l.drop k):=fun i j x=>by
 rw [List.drop_drop]
 exact h _ j x
theorem co_part (l:Fo) (i j:Nat):wts ((l.drop i).take j)≤wts l:=by
 have h1:wts l=wts (l.take i)+wts (l.drop i):=by rw [←wts_append,List.take_append_drop]
 have h2:wts (l.drop i)=wts ((l.drop i).take j)+wts ((l.drop i).drop j):=by rw [←wts_append,List.take_append_drop]
 omega
theorem sz_mul {r t:Rat} {N M:Nat} (h:sz N r) (k:sz M t):sz (N+M) (r*t):=by
 have e:r*t=Rat.divInt (r.num*t.num) ((r.den:Int)*(t.den:Int)):=by
  rw [←Rat.divInt_mul_divInt,Rat.num_divInt_den,Rat.num_divInt_den]
 have hl:=(low_of (Int.mul_ne_zero (by have:=r.den_pos;omega) (by have:=t.den_pos;omega)) e).le
 have a1:=lt_prod (i:=N) (j:=M) (Nat.lt_of_lt_of_le (xJ3 (am r.num)) (xX4 h.1)) (Nat.lt_of_lt_of_le (xJ3 (am t.num)) (xX4 k.1))
 have a2:am ((r.den:Int)*(t.den:Int)) < BB ^ (N+M):=lt_prod (by show r.den < _;exact Nat.lt_of_lt_of_le (xJ3 r.den) (xX4 h.2)) (by show t.den < _;exact Nat.lt_of_lt_of_le (xJ3 t.den) (xX4 k.2))
 exact ⟨xQ4 (Nat.lt_of_le_of_lt hl.1 a1),xQ4 (Nat.lt_of_le_of_lt hl.2 a2)⟩
theorem entS_sz {w:World} {R:List Mo} {l:Fo} (hE:∀ p∈R,Ent w p) (hR:fo R=nfm l) (hs:∀ x,sz 1099511627776 (co x l)):∀ p∈R,EntS w p:=by
 intro p hp
 have h1:(p.1,p.2.val)∈fo R:=List.mem_map.2 ⟨p,hp,rfl⟩
 have h2:co p.1 (fo R)=p.2.val:=(show nrm (fo R) by rw [hR];exact nfm_nrm l).co_mem h1
 rw [hR,nfm_co] at h2
 have h3:=hs p.1
 rw [h2] at h3
 obtain ⟨e1,e2⟩:=low_ns (hE p hp).low
 exact ⟨hE p hp,by rw [e1];exact h3.1,by rw [e2];exact h3.2⟩
set_option maxHeartbeats 4000000 in
set_option maxRecDepth 100000 in
theorem collect_manyF (b off:Nat) (c:Nat) (n h:Nat) (l1 l2:Fo) (w:World) (hn:2≤n) (hnc:n≤c) (hm:n≤1048576) (hh:h=n / 2)
  (H0:∀ w',Below w.heap.size w w'→Calls Tryz.prog 73 #[.slice (some ⟨b,off,none⟩) n c] w' fun e w''=>e=.returned (.bool false)∧Below w'.heap.size w' w'')
  (H1:∀ w',Below w.heap.size w w'→Calls Tryz.prog 51 #[.slice (some ⟨b,off,none⟩) h c] w' (FAns w' (nfm l1)))
  (H2:∀ w',Below w.heap.size w w'→∀ a2,(h < n→a2=some ⟨b,off+h*4,none⟩)→a2≠none→Calls Tryz.prog 51 #[.slice a2 (n - h) (c - h)] w' (FAns w' (nfm l2)))
  (w1:∀ x,sz 1099511627776 (co x l1)) (w2:∀ x,sz 1099511627776 (co x l2)) (n1:l1.length+l2.length≤2097152) :
  Calls Tryz.prog 51 #[.slice (some ⟨b,off,none⟩) n c] w (FAns w (nfm (l1 ++ l2))):=by
 have G0:=xQ1 (H0 w (Below.refl _ _))
 have G1:=xQ1 H1
 have G2:=xQ1 H2
 have S1:=xQ1 w1
 have S2:=xQ1 w2
 have e0:¬ ((n:Int)=1):=by omega
 have eh:wrap64 ((n:Int) / 2)=(h:Int):=by rw [wrap64_small (by omega) (by omega)];omega
 have i0:(0:Int)≤(h:Int):=by omega
 have i1:(h:Int)≤(c:Int):=by omega
 have i2:(h:Int)≤(n:Int):=by omega
 have i3:(n:Int)≤(c:Int):=by omega
 have sl1:=sl_headF b off n c h (by omega)
 obtain ⟨a2,sl2,sn,sl3⟩:=sl_restF b off n c h (by omega) hnc
 have G4:=xQ1 (And.intro sl3 sn)
 clear H0 H1 H2 sl3 sn w1 w2
 go_enter Tryz.func51,Tryz.ntmps51
 go_wp2_with fail
 refine G0.out.mono ?_
 rintro e w3 ⟨rfl,hB⟩
 go_wp2_with fail
 rw [show (n:Int) / 2=(h:Int) by omega]
 clear hh eh e0
 have bD:Below w3.heap.size w3 w3.drew:=(Below.refl _ _).drew
 replace hB:=hB.trans (bD.mono hB.size)
 refine wp_region_held_drew (S:=fun w'=>True) (by kernel_rfl) trivial (fun hHeld=>?_)
 generalize w3.drew=w0 at bD hB hHeld ⊢
 clear bD
 refine tk 0 (v:=?_) rfl (Or.inl ⟨by rfl,?_⟩) ?_
 rotate_left
 ·intro w9 hSw
  go_simp
  try with_reducible rfl
 simp only [pA]
 refine tk 1 (v:=?_) rfl (Or.inl ⟨by rfl,?_⟩) ?_
 rotate_left
 ·intro w9 hSw
  go_simp
  try with_reducible rfl
 simp only [pA]
 refine tk 2 (v:=?_) rfl (Or.inl ⟨by rfl,?_⟩) ?_
 rotate_left
 ·intro w9 hSw
  go_simp
  try with_reducible rfl
 simp only [pA]
 refine tk 4 (v:=?_) rfl (Or.inl ⟨by rfl,?_⟩) ?_
 rotate_left
 ·intro w9 hSw
  go_simp
  try with_reducible rfl
 simp only [pA]
 refine tk 5 (v:=?_) rfl (Or.inl ⟨by rfl,?_⟩) ?_
 rotate_left
 ·intro w9 hSw
  go_simp
  try with_reducible rfl
 simp only [pA]
 refine tk 6 (v:=?_) rfl (Or.inl ⟨by rfl,?_⟩) ?_
 rotate_left
 ·intro w9 hSw
  go_simp
  try with_reducible rfl
 simp only [pA]
 refine wpAnyH_ready (rs:=[3]) (by kernel_rfl) (by simp) ?_
 refine xX0 rfl (fun KK hKK=>?_)
 go_simp
 refine (G1.out _ hB).mono ?_
 rintro e w4 ⟨a4,c4,R4,rfl,b4,s4,e4,f4⟩
 go_wp2_with fail
 replace hB:=hB.trans (b4.mono hB.size)
 clear b4
 refine hKK.out _ _ hHeld ?_
 clear hHeld
 intro hHeld
 clear hKK KK
 try simp only [pA]
 refine wpAnyH_ready (rs:=[7]) (by kernel_rfl) (by simp) ?_
 refine xX0 rfl (fun KK hKK=>?_)
 go_simp
 refine (G2.out _ hB a2 G4.out.1 G4.out.2).mono ?_
 rintro e w5 ⟨a5,c5,R5,rfl,b5,s5,e5,f5⟩
 go_wp2_with fail
 replace hB:=hB.trans (b5.mono hB.size)
 replace s4:=s4.later b5
 replace e4:=fun p hp=>(e4 p hp).later b5
 clear b5
 refine hKK.out _ _ hHeld ?_
 clear hHeld
 intro hHeld
 clear hKK KK
 try simp only [pA]
 refine wpAnyH_ready (rs:=[8]) (by kernel_rfl) (by simp) ?_
 refine xX0 rfl (fun KK hKK=>?_)
 have hl4:=xJ0 l1
 have hl5:=xJ0 l2
 rw [←f4,xX3] at hl4
 rw [←f5,xX3] at hl5
 go_simp
 refine (lsum_is a4 c4 R4 a5 c5 R5 _ s4 s5 (entS_sz e4 f4 S1.out) (entS_sz e5 f5 S2.out) (by omega)).mono ?_
 rintro e w6 ⟨a6,c6,R6,rfl,b6,s6,e6,f6⟩
 go_wp2_with fail
 replace hB:=hB.trans (b6.mono hB.size)
 refine hKK.out _ _ hHeld ?_
 clear hHeld
 intro hHeld
 clear hKK KK
 try simp only [pA]
 refine tk 9 (v:=?_) rfl (Or.inl ⟨by rfl,?_⟩) ?_
 rotate_left
 ·intro w9 hSw
  go_simp
  try with_reducible rfl
 simp only [pA]
 refine wpAnyH_done (by kernel_rfl) ?_ _
 go_wp2
 go_ret
 exact ⟨a6,c6,R6,rfl,hB,s6,e6,by rw [f6,f4,f5,nfm_append]⟩
theorem fo_take (L:List Mo) (k:Nat):fo (L.take k)=(fo L).take k:=by unfold fo;rw [List.map_take]
theorem fo_drop (L:List Mo) (k:Nat):fo (L.drop k)=(fo L).drop k:=by unfold fo;rw [List.map_drop]
theorem collectF_is:∀ (k:Nat) (L:List Mo) (a:Option Addr) (c:Nat) (w:World),L.length≤k→Sl w a c L→(∀ p∈L,Ent w p)→L.length≤1048576→fine (fo L) →
  Calls Tryz.prog 51 #[.slice a L.length c] w (FAns w (nfm (fo L)))
 | k,L,a,c,w,hk,hS,hE,hm,hw=>by
  by_cases hN:nrm (fo L)
  ·refine (collect_norm a c L.length w ((isNormal_is a c L w hS.lies hE hS.len hm).mono fun e w' ⟨d,he,hd,hb⟩=>⟨by rw [he,hd.2 hN],hb⟩)).mono ?_
   rintro e w' ⟨rfl,hb⟩
   exact ⟨a,c,L,rfl,hb,hS.later hb,fun p hp=>(hE p hp).later hb,nfm_self hN⟩
  ·match L,hk,hS,hE,hm,hw,hN with
   | [],_,_,_,_,_,hN=>exact absurd nrm.nil hN
   | [p],_,hS,hE,hm,hw,hN =>
    have hno:=isNormal_no hS.lies hE hS.len hm hN
    rw [show ([p]:List Mo).length=1 from rfl] at hno ⊢
    refine (collect_one a c w hno).mono ?_
    rintro e w' ⟨rfl,hb⟩
    exact ⟨none,0,[],rfl,hb,⟨FAt.nil _ _,Nat.le_refl _,fun _=>rfl⟩,fun q hq=>absurd hq (by simp),(nfm_single hN).symm⟩
   | p :: q :: L',hk,hS,hE,hm,hw,hN =>
    match k,hk with
    | 0,hk=>simp only [List.length_cons] at hk;omega
    | k+1,hk =>
     obtain ⟨L,hL⟩:∃ L,p :: q :: L'=L:=⟨_,rfl⟩
     have h2:2≤L.length:=by rw [←hL];simp
     rw [hL] at hk hS hE hm hw hN ⊢
     obtain ⟨b,off,rfl,_,_⟩:=hS.lies (by intro e;rw [e] at h2;simp at h2)
     obtain ⟨h,hh⟩:∃ h,h=L.length / 2:=⟨_,rfl⟩
     have hsplit:fo L=fo (L.take h) ++ fo (L.drop h):=by rw [←xZ1,List.take_append_drop]
     have hlt:(L.take h).length=h:=by rw [List.length_take];omega
     have hld:(L.drop h).length=L.length - h:=List.length_drop
     have w1:fine (fo (L.take h)):=by rw [fo_take];exact hw.take h
     have w2:fine (fo (L.drop h)):=by rw [fo_drop];exact hw.drop h
     rw [hsplit]
     refine collect_manyF b off c L.length h (fo (L.take h)) (fo (L.drop h)) w h2 hS.len hm hh (fun w' hb=>isNormal_no (hS.lies.later hb) (fun p hp=>(hE p hp).later hb) hS.len hm hN) (fun w' hb=>?_) (fun w' hb a2 ha hne=>?_) w1.all w2.all (by rw [xX3,xX3];omega)
     ·have:=collectF_is k (L.take h) (some ⟨b,off,none⟩) c w' (by omega) ⟨(hS.lies.take h).later hb,by have:=hS.len;omega,fun e=>by cases e⟩ (fun p hp=>(hE p (List.mem_of_mem_take hp)).later hb) (by omega) w1
      rw [hlt] at this
      exact this
     ·have:=collectF_is k (L.drop h) a2 (c - h) w' (by omega) ⟨fun hn=>by rw [ha (by omega)];exact ((hS.lies.drop h).later hb) hn,by have:=hS.len;omega,fun e=>absurd e hne⟩ (fun p hp=>(hE p (List.mem_of_mem_drop hp)).later hb) (by omega) w2
      rw [hld] at this
      exact this
termination_by k=>k
end Go.Proofs.YtgfmaejhdbmkoaaGreat
