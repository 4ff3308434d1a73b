import Derived.Test.YtgfmaejhdbmkoaaGreatWN2
set_option linter.unusedSimpArgs false
namespace Go.Proofs.YtgfmaejhdbmkoaaGreat
open Go.RowKit
set_option linter.unusedVariables false
theorem nrm_snoc {l:Fo} {p:Int × Rat} (h:nrm l) (h1:∀ q∈l,q.1 < p.1) (h2:p.2≠0):nrm (l ++ [p]) :=
 ⟨List.pairwise_append.2 ⟨h.1,List.pairwise_singleton _ _,fun a ha b hb=>by rw [List.mem_singleton] at hb;subst hb;exact h1 a ha⟩,fun q hq=>by
  rcases List.mem_append.1 hq with hq | hq
  ·exact h.2 q hq
  ·rw [List.mem_singleton] at hq;subst hq;exact h2⟩
theorem nrm_last {l:Fo} {p q:Int × Rat} (h:nrm (l ++ [q])) (hlt:q.1 < p.1) (h2:p.2≠0):nrm ((l ++ [q]) ++ [p]):=by
 refine nrm_snoc h (fun r hr=>?_) h2
 rcases List.mem_append.1 hr with hr | hr
 ·have:=(List.pairwise_append.1 h.1).2.2 r hr q (by simp)
  omega
 ·rw [List.mem_singleton] at hr;subst hr;exact hlt
theorem sgn_num (r:Rat):sgn r.num=0↔r=0:=by
 unfold sgn
 have:=Rat.num_eq_zero (q:=r)
 by_cases h1:r.num < 0
 ·rw [if_pos h1]
  exact ⟨fun h=>absurd h (by omega),fun h=>absurd (this.2 h) (by omega)⟩
 ·rw [if_neg h1]
  by_cases h2:r.num=0
  ·rw [if_pos h2];exact ⟨fun _=>this.1 h2,fun _=>rfl⟩
  ·rw [if_neg h2];exact ⟨fun h=>absurd h (by omega),fun h=>absurd (this.2 h) h2⟩
theorem val_zero (q:RatV):sgn (rn q.s q.X q.Y)=0↔q.val=0:=by
 have h:=q.val_low
 have e:=h.eq
 have hd:(q.val.den:Int)≠0:=by have:=h.pos;omega
 have hz:=Rat.num_eq_zero (q:=q.val)
 have k:rn q.s q.X q.Y=0↔q.val.num=0:=by
  constructor
  ·intro h0
   rw [h0,Int.zero_mul] at e
   rcases Int.mul_eq_zero.1 e with e | e
   ·exact e
   ·exact absurd e h.ne
  ·intro h0
   rw [h0,Int.zero_mul] at e
   rcases Int.mul_eq_zero.1 e.symm with e | e
   ·exact e
   ·exact absurd e hd
 rw [←hz,←k]
 unfold sgn
 split
 ·exact ⟨fun h=>absurd h (by omega),fun h=>absurd h (by omega)⟩
 ·split
  ·rename_i h1 h2;exact ⟨fun _=>h2,fun _=>rfl⟩
  ·rename_i h1 h2;exact ⟨fun h=>absurd h (by omega),fun h=>absurd h h2⟩
theorem not_nrm_zero {l m:Fo} {p:Int × Rat} (h:p.2=0):¬ nrm (l ++ p :: m):=fun hn=>hn.2 p (by simp) h
theorem not_nrm_ge {l m:Fo} {p q:Int × Rat} (h:p.1≤q.1):¬ nrm (l ++ q :: p :: m):=fun hn=>by
 have:=(List.pairwise_append.1 hn.1).2.1
 have:=(List.pairwise_cons.1 this).1 p (by simp)
 omega
theorem xJ6 {α:Type} {L:List α} {k:Nat} {p:α} (h:L[k]?=some p):L.take (k+1)=L.take k ++ [p]∧L=L.take k ++ p :: L.drop (k+1):=by
 have hk:=(List.getElem?_eq_some_iff.1 h).1
 have he:=(List.getElem?_eq_some_iff.1 h).2
 constructor
 ·rw [List.take_add_one,h];rfl
 ·rw [←he,List.getElem_cons_drop,List.take_append_drop]
def Tells (l:Fo) (w:World) (e:Ending) (w':World):Prop:=∃ d:Bool,e=.returned (.bool d)∧(d=true↔nrm l)∧Below w.heap.size w w'
set_option maxHeartbeats 4000000 in
set_option maxRecDepth 100000 in
theorem isNormal_is (a:Option Addr) (c:Nat) (L:List Mo) (w:World) (hF:FAt w a L) (hE:∀ p∈L,Ent w p) (hc:L.length≤c) (hm:L.length≤1048576) :
  Calls Tryz.prog 73 #[.slice a L.length c] w (Tells (fo L) w):=by
 go_enter Tryz.func73,Tryz.ntmps73
 go_wp2_with fail
 go_loopw [7] (fun vi wr=>∃ k:Nat,k≤L.length∧vi=.int .i64 k∧Below w.heap.size w wr∧nrm (fo (L.take k))) (fun vi _=>L.length - (intOf vi).toNat)
 case atStart=>exact ⟨0,Nat.zero_le _,rfl,Below.refl _ _,nrm.nil⟩
 case round =>
  obtain ⟨k,hk,rfl,hB,hN⟩:=hrel
  by_cases hlt:k < L.length
  ·obtain ⟨p,hp⟩:∃ p,L[k]?=some p:=⟨L[k],List.getElem?_eq_getElem hlt⟩
   obtain ⟨b,off,rfl,hb,hcell⟩:=hF (by intro e;rw [e] at hlt;simp at hlt)
   obtain ⟨c0,c1,c2,c3⟩:=hcell k p hp
   replace c0:=xQ0 hB c0
   replace c1:=xQ0 hB c1
   replace c2:=xQ0 hB c2
   replace c3:=xQ0 hB c3
   have hent:=(hE p (List.mem_of_getElem? hp)).later hB
   obtain ⟨x,q⟩:=p
   simp only at c0 c1 c2 c3
   have hok:q.ok wr:=hent.ok
   clear hent
   have i0:(0:Int)≤(k:Int):=by omega
   have i1:(k:Int) < (L.length:Int):=by omega
   obtain ⟨C,hC⟩:∃ C,sgn (rn q.s q.X q.Y)=C:=⟨_,rfl⟩
   have hz:=val_zero q
   rw [hC] at hz
   have GS:=xQ1 (fun w' k1 k2=>qSign_is q.s q.a q.n q.c q.X q.b q.m q.e q.Y C w' hok.2.1 (Nat.le_trans hok.2.2.1 (by omega)) k1 hok.2.2.2.2.1 (Nat.le_trans hok.2.2.2.2.2 (by omega)) k2 hC)
   obtain ⟨t1,t2⟩:=xJ6 hp
   have t1':fo (L.take (k+1))=fo (L.take k) ++ [(x,q.val)]:=by rw [t1,xZ1];rfl
   have t2':fo L=fo (L.take k) ++ (x,q.val) :: fo (L.drop (k+1)):=by conv=>lhs;rw [t2,xZ1,fo_cons]
   clear t1 t2 hC
   have g1:=hok.1
   have g2:=hok.2.2.2.1
   clear hok
   by_cases hC0:C=0
   ·have hv:=hz.1 hC0
    clear hz
    subst hC0
    go_wp2_with fail
    obtain ⟨wA,hwA⟩:∃ wA,wr.alloc (.cells #[.int .i64 x,.bool q.s,.slice q.a q.n q.c,.slice q.b q.m q.e] 57)=wA:=⟨_,rfl⟩
    have bA:Below wr.heap.size wr wA:=by subst hwA;exact xQ2 _
    have a0:wA.cell? ⟨wr.heap.size,0,none⟩=some (.int .i64 x):=by subst hwA;go_simp
    have a1:wA.cell? ⟨wr.heap.size,1,none⟩=some (.bool q.s):=by subst hwA;go_simp
    have a2:wA.cell? ⟨wr.heap.size,2,none⟩=some (.slice q.a q.n q.c):=by subst hwA;go_simp
    have a3:wA.cell? ⟨wr.heap.size,3,none⟩=some (.slice q.b q.m q.e):=by subst hwA;go_simp
    rw [hwA]
    clear hwA
    replace hB:=hB.trans (bA.mono hB.size)
    replace g1:=g1.later bA
    replace g2:=g2.later bA
    clear c0 c1 c2 c3
    clear bA
    have bD:Below wA.heap.size wA wA.drew:=(Below.refl _ _).drew
    have ka0:=xQ0 bD a0
    have ka1:=xQ0 bD a1
    have ka2:=xQ0 bD a2
    have ka3:=xQ0 bD a3
    replace hB:=hB.trans (bD.mono hB.size)
    replace g1:=g1.later bD
    replace g2:=g2.later bD
    refine wp_region_held_drew (S:=fun w'=>w'.cell? ⟨wr.heap.size,0,none⟩=some (.int .i64 x)∧w'.cell? ⟨wr.heap.size,1,none⟩=some (.bool q.s)∧w'.cell? ⟨wr.heap.size,2,none⟩=some (.slice q.a q.n q.c)∧w'.cell? ⟨wr.heap.size,3,none⟩=some (.slice q.b q.m q.e)) (by kernel_rfl) ⟨ka0,ka1,ka2,ka3⟩ (fun hHeld=>?_)
    clear ka0 ka1 ka2 ka3
    generalize wA.drew=w0 at bD g1 g2 hB hHeld ⊢
    refine tk 0 (v:=?_) rfl (Or.inl ⟨by rfl,?_⟩) ?_
    rotate_left
    ·intro w9 hSw
     go_simp
     try with_reducible rfl
    simp only [pA]
    refine tk 1 (v:=?_) rfl (Or.inl ⟨by rfl,?_⟩) ?_
    rotate_left
    ·intro w9 hSw
     go_simp
     try with_reducible rfl
    simp only [pA]
    refine wpAnyH_ready (rs:=[2]) (by kernel_rfl) (by simp) ?_
    refine xX0 rfl (fun KK hKK=>?_)
    go_simp
    refine (GS.out _ g1 g2).mono ?_
    rintro e w6 ⟨rfl,b6⟩
    have bC:=b6
    replace hB:=hB.trans (bC.mono hB.size)
    replace g1:=g1.later bC
    replace g2:=g2.later bC
    replace hHeld:=(⟨xQ0 bC hHeld.1,xQ0 bC hHeld.2.1,xQ0 bC hHeld.2.2.1,xQ0 bC hHeld.2.2.2⟩:_∧_∧_∧_)
    clear bC
    go_wp2_with fail
    refine hKK.out _ _ hHeld ?_
    clear hHeld
    intro hHeld
    clear hKK KK
    try simp only [pA]
    refine tk 3 (v:=?_) rfl (Or.inl ⟨by rfl,?_⟩) ?_
    rotate_left
    ·intro w9 hSw
     go_simp
     try with_reducible rfl
    simp only [pA]
    refine tk 4 (v:=?_) rfl (Or.inl ⟨by rfl,?_⟩) ?_
    rotate_left
    ·intro w9 hSw
     go_simp
     try with_reducible rfl
    simp only [pA]
    refine tk 5 (v:=undef) rfl (Or.inr ⟨by rfl,rfl⟩) ?_
    simp only [pA]
    refine tk 6 (v:=undef) rfl (Or.inr ⟨by rfl,rfl⟩) ?_
    simp only [pA]
    refine tk 7 (v:=undef) rfl (Or.inr ⟨by rfl,rfl⟩) ?_
    simp only [pA]
    refine tk 8 (v:=undef) rfl (Or.inr ⟨by rfl,rfl⟩) ?_
    simp only [pA]
    refine tk 9 (v:=undef) rfl (Or.inr ⟨by rfl,rfl⟩) ?_
    simp only [pA]
    refine tk 10 (v:=undef) rfl (Or.inr ⟨by rfl,rfl⟩) ?_
    simp only [pA]
    refine tk 11 (v:=undef) rfl (Or.inr ⟨by rfl,rfl⟩) ?_
    simp only [pA]
    refine tk 12 (v:=undef) rfl (Or.inr ⟨by rfl,rfl⟩) ?_
    simp only [pA]
    refine tk 13 (v:=undef) rfl (Or.inr ⟨by rfl,rfl⟩) ?_
    simp only [pA]
    refine tk 14 (v:=undef) rfl (Or.inr ⟨by rfl,rfl⟩) ?_
    simp only [pA]
    refine tk 15 (v:=undef) rfl (Or.inr ⟨by rfl,rfl⟩) ?_
    simp only [pA]
    refine tk 16 (v:=undef) rfl (Or.inr ⟨by rfl,rfl⟩) ?_
    simp only [pA]
    refine tk 17 (v:=undef) rfl (Or.inr ⟨by rfl,rfl⟩) ?_
    simp only [pA]
    refine tk 18 (v:=?_) rfl (Or.inl ⟨by rfl,?_⟩) ?_
    rotate_left
    ·intro w9 hSw
     go_simp
     try with_reducible rfl
    simp only [pA]
    refine wpAnyH_done (by kernel_rfl) ?_ _
    go_wp2
    go_ret
    exact ⟨false,rfl,⟨fun h=>(by cases h),fun h=>absurd h (by rw [t2'];exact not_nrm_zero hv)⟩,hB⟩
   ·have hv:q.val≠0:=fun h=>hC0 (hz.2 h)
    have hCb:(C == 0)=false:=by simp [hC0]
    clear hz
    rcases Nat.eq_zero_or_pos k with hk0 | hk0
    ·have i2:¬ (0:Int) < (k:Int):=by omega
     have HI2:=xQ1 (show ¬ 0 < k by omega)
     have HK:=xQ1 hk0
     clear hk0
     go_wp2_with fail
     obtain ⟨wA,hwA⟩:∃ wA,wr.alloc (.cells #[.int .i64 x,.bool q.s,.slice q.a q.n q.c,.slice q.b q.m q.e] 57)=wA:=⟨_,rfl⟩
     have bA:Below wr.heap.size wr wA:=by subst hwA;exact xQ2 _
     have a0:wA.cell? ⟨wr.heap.size,0,none⟩=some (.int .i64 x):=by subst hwA;go_simp
     have a1:wA.cell? ⟨wr.heap.size,1,none⟩=some (.bool q.s):=by subst hwA;go_simp
     have a2:wA.cell? ⟨wr.heap.size,2,none⟩=some (.slice q.a q.n q.c):=by subst hwA;go_simp
     have a3:wA.cell? ⟨wr.heap.size,3,none⟩=some (.slice q.b q.m q.e):=by subst hwA;go_simp
     rw [hwA]
     clear hwA
     replace hB:=hB.trans (bA.mono hB.size)
     replace g1:=g1.later bA
     replace g2:=g2.later bA
     clear c0 c1 c2 c3
     clear bA
     have bD:Below wA.heap.size wA wA.drew:=(Below.refl _ _).drew
     have ka0:=xQ0 bD a0
     have ka1:=xQ0 bD a1
     have ka2:=xQ0 bD a2
     have ka3:=xQ0 bD a3
     replace hB:=hB.trans (bD.mono hB.size)
     replace g1:=g1.later bD
     replace g2:=g2.later bD
     refine wp_region_held_drew (S:=fun w'=>w'.cell? ⟨wr.heap.size,0,none⟩=some (.int .i64 x)∧w'.cell? ⟨wr.heap.size,1,none⟩=some (.bool q.s)∧w'.cell? ⟨wr.heap.size,2,none⟩=some (.slice q.a q.n q.c)∧w'.cell? ⟨wr.heap.size,3,none⟩=some (.slice q.b q.m q.e)) (by kernel_rfl) ⟨ka0,ka1,ka2,ka3⟩ (fun hHeld=>?_)
     clear ka0 ka1 ka2 ka3
     generalize wA.drew=w0 at bD g1 g2 hB hHeld ⊢
     refine tk 0 (v:=?_) rfl (Or.inl ⟨by rfl,?_⟩) ?_
     rotate_left
     ·intro w9 hSw
      go_simp
      try with_reducible rfl
     simp only [pA]
     refine tk 1 (v:=?_) rfl (Or.inl ⟨by rfl,?_⟩) ?_
     rotate_left
     ·intro w9 hSw
      go_simp
      try with_reducible rfl
     simp only [pA]
     refine wpAnyH_ready (rs:=[2]) (by kernel_rfl) (by simp) ?_
     refine xX0 rfl (fun KK hKK=>?_)
     go_simp
     refine (GS.out _ g1 g2).mono ?_
     rintro e w6 ⟨rfl,b6⟩
     have bC:=b6
     replace hB:=hB.trans (bC.mono hB.size)
     replace g1:=g1.later bC
     replace g2:=g2.later bC
     replace hHeld:=(⟨xQ0 bC hHeld.1,xQ0 bC hHeld.2.1,xQ0 bC hHeld.2.2.1,xQ0 bC hHeld.2.2.2⟩:_∧_∧_∧_)
     clear bC
     go_wp2_with fail
     refine hKK.out _ _ hHeld ?_
     clear hHeld
     intro hHeld
     clear hKK KK
     try simp only [pA]
     refine tk 3 (v:=?_) rfl (Or.inl ⟨by rfl,?_⟩) ?_
     rotate_left
     ·intro w9 hSw
      go_simp
      try with_reducible rfl
     simp only [pA]
     try simp only [hCb,decide_true,decide_false,gt_iff_lt,ge_iff_le]
     refine tk 4 (v:=?_) rfl (Or.inl ⟨by rfl,?_⟩) ?_
     rotate_left
     ·intro w9 hSw
      go_simp
      try with_reducible rfl
     simp only [pA]
     refine tk 5 (v:=?_) rfl (Or.inl ⟨by rfl,?_⟩) ?_
     rotate_left
     ·intro w9 hSw
      go_simp
      try with_reducible rfl
     simp only [pA]
     refine tk 6 (v:=?_) rfl (Or.inl ⟨by rfl,?_⟩) ?_
     rotate_left
     ·intro w9 hSw
      go_simp
      try with_reducible rfl
     simp only [pA]
     try simp only [i2,HI2.out,decide_true,decide_false,gt_iff_lt,ge_iff_le]
     refine tk 7 (v:=?_) rfl (Or.inl ⟨by rfl,?_⟩) ?_
     rotate_left
     ·intro w9 hSw
      go_simp
      try with_reducible rfl
     simp only [pA]
     refine tk 8 (v:=undef) rfl (Or.inr ⟨by rfl,rfl⟩) ?_
     simp only [pA]
     refine tk 9 (v:=undef) rfl (Or.inr ⟨by rfl,rfl⟩) ?_
     simp only [pA]
     refine tk 10 (v:=undef) rfl (Or.inr ⟨by rfl,rfl⟩) ?_
     simp only [pA]
     refine tk 11 (v:=undef) rfl (Or.inr ⟨by rfl,rfl⟩) ?_
     simp only [pA]
     refine tk 12 (v:=undef) rfl (Or.inr ⟨by rfl,rfl⟩) ?_
     simp only [pA]
     refine tk 13 (v:=undef) rfl (Or.inr ⟨by rfl,rfl⟩) ?_
     simp only [pA]
     refine tk 14 (v:=undef) rfl (Or.inr ⟨by rfl,rfl⟩) ?_
     simp only [pA]
     refine tk 15 (v:=undef) rfl (Or.inr ⟨by rfl,rfl⟩) ?_
     simp only [pA]
     refine tk 16 (v:=undef) rfl (Or.inr ⟨by rfl,rfl⟩) ?_
     simp only [pA]
     refine tk 17 (v:=?_) rfl (Or.inl ⟨by rfl,?_⟩) ?_
     rotate_left
     ·intro w9 hSw
      go_simp
      try with_reducible rfl
     simp only [pA]
     refine tk 18 (v:=?_) rfl (Or.inl ⟨by rfl,?_⟩) ?_
     rotate_left
     ·intro w9 hSw
      go_simp
      try with_reducible rfl
     simp only [pA]
     refine wpAnyH_done (by kernel_rfl) ?_ _
     go_wp2
     go_roundw
     case rel=>exact ⟨k+1,by omega,by go_num,hB,by rw [t1'];exact nrm_snoc hN (fun r hr=>by rw [HK.out] at hr;simp [fo] at hr) hv⟩
     case measure=>simp [intOf];omega
    ·obtain ⟨j,hj⟩:∃ j,k=j+1:=⟨k - 1,by omega⟩
     obtain ⟨y,hy⟩:∃ y,L[j]?=some y:=⟨L[j],List.getElem?_eq_getElem (by omega)⟩
     obtain ⟨d0,_⟩:=hcell j y hy
     replace d0:=xQ0 hB d0
     obtain ⟨y,q9⟩:=y
     simp only at d0
     obtain ⟨t3,t4⟩:=xJ6 hy
     have t3':fo (L.take (j+1))=fo (L.take j) ++ [(y,q9.val)]:=by rw [t3,xZ1];rfl
     clear t3 t4
     have j0:(0:Int)≤(j:Int):=by omega
     have j1:(j:Int) < (L.length:Int):=by omega
     have j2:((k:Int) - 1)=(j:Int):=by omega
     have j3:0 < k:=hk0
     have j4:IntKind.i64.wrap (j:Int)=(j:Int):=Go.IntWalk.i64_in _ (by omega)
     rw [←hj] at t3'
     have HJ:=xQ1 hj
     clear hj
     by_cases hyx:x≤y
     ·skip
      go_wp2_with fail
      obtain ⟨wA,hwA⟩:∃ wA,wr.alloc (.cells #[.int .i64 x,.bool q.s,.slice q.a q.n q.c,.slice q.b q.m q.e] 57)=wA:=⟨_,rfl⟩
      have bA:Below wr.heap.size wr wA:=by subst hwA;exact xQ2 _
      have a0:wA.cell? ⟨wr.heap.size,0,none⟩=some (.int .i64 x):=by subst hwA;go_simp
      have a1:wA.cell? ⟨wr.heap.size,1,none⟩=some (.bool q.s):=by subst hwA;go_simp
      have a2:wA.cell? ⟨wr.heap.size,2,none⟩=some (.slice q.a q.n q.c):=by subst hwA;go_simp
      have a3:wA.cell? ⟨wr.heap.size,3,none⟩=some (.slice q.b q.m q.e):=by subst hwA;go_simp
      rw [hwA]
      clear hwA
      replace hB:=hB.trans (bA.mono hB.size)
      replace g1:=g1.later bA
      replace g2:=g2.later bA
      replace d0:=xQ0 bA d0
      clear c0 c1 c2 c3
      clear bA
      have bD:Below wA.heap.size wA wA.drew:=(Below.refl _ _).drew
      have ka0:=xQ0 bD a0
      have ka1:=xQ0 bD a1
      have ka2:=xQ0 bD a2
      have ka3:=xQ0 bD a3
      have kd0:=xQ0 bD d0
      replace hB:=hB.trans (bD.mono hB.size)
      replace g1:=g1.later bD
      replace g2:=g2.later bD
      refine wp_region_held_drew (S:=fun w'=>w'.cell? ⟨wr.heap.size,0,none⟩=some (.int .i64 x)∧w'.cell? ⟨wr.heap.size,1,none⟩=some (.bool q.s)∧w'.cell? ⟨wr.heap.size,2,none⟩=some (.slice q.a q.n q.c)∧w'.cell? ⟨wr.heap.size,3,none⟩=some (.slice q.b q.m q.e)∧w'.cell? ⟨b,off+j*4,none⟩=some (.int .i64 y)) (by kernel_rfl) ⟨ka0,ka1,ka2,ka3,kd0⟩ (fun hHeld=>?_)
      clear ka0 ka1 ka2 ka3 kd0
      generalize wA.drew=w0 at bD g1 g2 hB hHeld ⊢
      refine tk 0 (v:=?_) rfl (Or.inl ⟨by rfl,?_⟩) ?_
      rotate_left
      ·intro w9 hSw
       go_simp
       try with_reducible rfl
      simp only [pA]
      refine tk 1 (v:=?_) rfl (Or.inl ⟨by rfl,?_⟩) ?_
      rotate_left
      ·intro w9 hSw
       go_simp
       try with_reducible rfl
      simp only [pA]
      refine wpAnyH_ready (rs:=[2]) (by kernel_rfl) (by simp) ?_
      refine xX0 rfl (fun KK hKK=>?_)
      go_simp
      refine (GS.out _ g1 g2).mono ?_
      rintro e w6 ⟨rfl,b6⟩
      have bC:=b6
      replace hB:=hB.trans (bC.mono hB.size)
      replace g1:=g1.later bC
      replace g2:=g2.later bC
      replace hHeld:=(⟨xQ0 bC hHeld.1,xQ0 bC hHeld.2.1,xQ0 bC hHeld.2.2.1,xQ0 bC hHeld.2.2.2.1,xQ0 bC hHeld.2.2.2.2⟩:_∧_∧_∧_∧_)
      clear bC
      go_wp2_with fail
      refine hKK.out _ _ hHeld ?_
      clear hHeld
      intro hHeld
      clear hKK KK
      try simp only [pA]
      refine tk 3 (v:=?_) rfl (Or.inl ⟨by rfl,?_⟩) ?_
      rotate_left
      ·intro w9 hSw
       go_simp
       try with_reducible rfl
      simp only [pA]
      try simp only [hCb,decide_true,decide_false,gt_iff_lt,ge_iff_le]
      refine tk 4 (v:=?_) rfl (Or.inl ⟨by rfl,?_⟩) ?_
      rotate_left
      ·intro w9 hSw
       go_simp
       try with_reducible rfl
      simp only [pA]
      refine tk 5 (v:=?_) rfl (Or.inl ⟨by rfl,?_⟩) ?_
      rotate_left
      ·intro w9 hSw
       go_simp
       try with_reducible rfl
      simp only [pA]
      refine tk 6 (v:=?_) rfl (Or.inl ⟨by rfl,?_⟩) ?_
      rotate_left
      ·intro w9 hSw
       go_simp
       try with_reducible rfl
      simp only [pA]
      try simp only [j3,decide_true,decide_false,gt_iff_lt,ge_iff_le]
      refine tk 7 (v:=?_) rfl (Or.inl ⟨by rfl,?_⟩) ?_
      rotate_left
      ·intro w9 hSw
       go_simp
       try with_reducible rfl
      simp only [pA]
      refine tk 8 (v:=?_) rfl (Or.inl ⟨by rfl,?_⟩) ?_
      rotate_left
      ·intro w9 hSw
       go_simp
       try with_reducible rfl
      simp only [pA]
      refine tk 9 (v:=?_) rfl (Or.inl ⟨by rfl,?_⟩) ?_
      rotate_left
      ·intro w9 hSw
       go_simp
       try with_reducible rfl
      simp only [pA]
      refine tk 10 (v:=?_) rfl (Or.inl ⟨by rfl,?_⟩) ?_
      rotate_left
      ·intro w9 hSw
       go_simp
       try with_reducible rfl
      simp only [pA]
      try simp only [j2,j4,decide_true,decide_false,gt_iff_lt,ge_iff_le]
      refine tk 11 (v:=?_) rfl (Or.inl ⟨by rfl,?_⟩) ?_
      rotate_left
      ·intro w9 hSw
       go_simp
       try with_reducible rfl
      simp only [pA]
      refine tk 12 (v:=?_) rfl (Or.inl ⟨by rfl,?_⟩) ?_
      rotate_left
      ·intro w9 hSw
       go_simp
       try with_reducible rfl
      simp only [pA]
      refine tk 13 (v:=?_) rfl (Or.inl ⟨by rfl,?_⟩) ?_
      rotate_left
      ·intro w9 hSw
       go_simp
       try with_reducible rfl
      simp only [pA]
      refine tk 14 (v:=?_) rfl (Or.inl ⟨by rfl,?_⟩) ?_
      rotate_left
      ·intro w9 hSw
       go_simp
       try with_reducible rfl
      simp only [pA]
      refine tk 15 (v:=?_) rfl (Or.inl ⟨by rfl,?_⟩) ?_
      rotate_left
      ·intro w9 hSw
       go_simp
       try with_reducible rfl
      simp only [pA]
      refine tk 16 (v:=?_) rfl (Or.inl ⟨by rfl,?_⟩) ?_
      rotate_left
      ·intro w9 hSw
       go_simp
       try with_reducible rfl
      simp only [pA]
      try simp only [hyx,decide_true,decide_false,gt_iff_lt,ge_iff_le]
      refine tk 17 (v:=?_) rfl (Or.inl ⟨by rfl,?_⟩) ?_
      rotate_left
      ·intro w9 hSw
       go_simp
       try with_reducible rfl
      simp only [pA]
      refine tk 18 (v:=?_) rfl (Or.inl ⟨by rfl,?_⟩) ?_
      rotate_left
      ·intro w9 hSw
       go_simp
       try with_reducible rfl
      simp only [pA]
      refine wpAnyH_done (by kernel_rfl) ?_ _
      go_wp2
      go_ret
      exact ⟨false,rfl,⟨fun h=>(by cases h),fun h=>absurd h (by rw [t2',t3',List.append_assoc];exact not_nrm_ge hyx)⟩,hB⟩
     ·skip
      go_wp2_with fail
      obtain ⟨wA,hwA⟩:∃ wA,wr.alloc (.cells #[.int .i64 x,.bool q.s,.slice q.a q.n q.c,.slice q.b q.m q.e] 57)=wA:=⟨_,rfl⟩
      have bA:Below wr.heap.size wr wA:=by subst hwA;exact xQ2 _
      have a0:wA.cell? ⟨wr.heap.size,0,none⟩=some (.int .i64 x):=by subst hwA;go_simp
      have a1:wA.cell? ⟨wr.heap.size,1,none⟩=some (.bool q.s):=by subst hwA;go_simp
      have a2:wA.cell? ⟨wr.heap.size,2,none⟩=some (.slice q.a q.n q.c):=by subst hwA;go_simp
      have a3:wA.cell? ⟨wr.heap.size,3,none⟩=some (.slice q.b q.m q.e):=by subst hwA;go_simp
      rw [hwA]
      clear hwA
      replace hB:=hB.trans (bA.mono hB.size)
      replace g1:=g1.later bA
      replace g2:=g2.later bA
      replace d0:=xQ0 bA d0
      clear c0 c1 c2 c3
      clear bA
      have bD:Below wA.heap.size wA wA.drew:=(Below.refl _ _).drew
      have ka0:=xQ0 bD a0
      have ka1:=xQ0 bD a1
      have ka2:=xQ0 bD a2
      have ka3:=xQ0 bD a3
      have kd0:=xQ0 bD d0
      replace hB:=hB.trans (bD.mono hB.size)
      replace g1:=g1.later bD
      replace g2:=g2.later bD
      refine wp_region_held_drew (S:=fun w'=>w'.cell? ⟨wr.heap.size,0,none⟩=some (.int .i64 x)∧w'.cell? ⟨wr.heap.size,1,none⟩=some (.bool q.s)∧w'.cell? ⟨wr.heap.size,2,none⟩=some (.slice q.a q.n q.c)∧w'.cell? ⟨wr.heap.size,3,none⟩=some (.slice q.b q.m q.e)∧w'.cell? ⟨b,off+j*4,none⟩=some (.int .i64 y)) (by kernel_rfl) ⟨ka0,ka1,ka2,ka3,kd0⟩ (fun hHeld=>?_)
      clear ka0 ka1 ka2 ka3 kd0
      generalize wA.drew=w0 at bD g1 g2 hB hHeld ⊢
      refine tk 0 (v:=?_) rfl (Or.inl ⟨by rfl,?_⟩) ?_
      rotate_left
      ·intro w9 hSw
       go_simp
       try with_reducible rfl
      simp only [pA]
      refine tk 1 (v:=?_) rfl (Or.inl ⟨by rfl,?_⟩) ?_
      rotate_left
      ·intro w9 hSw
       go_simp
       try with_reducible rfl
      simp only [pA]
      refine wpAnyH_ready (rs:=[2]) (by kernel_rfl) (by simp) ?_
      refine xX0 rfl (fun KK hKK=>?_)
      go_simp
      refine (GS.out _ g1 g2).mono ?_
      rintro e w6 ⟨rfl,b6⟩
      have bC:=b6
      replace hB:=hB.trans (bC.mono hB.size)
      replace g1:=g1.later bC
      replace g2:=g2.later bC
      replace hHeld:=(⟨xQ0 bC hHeld.1,xQ0 bC hHeld.2.1,xQ0 bC hHeld.2.2.1,xQ0 bC hHeld.2.2.2.1,xQ0 bC hHeld.2.2.2.2⟩:_∧_∧_∧_∧_)
      clear bC
      go_wp2_with fail
      refine hKK.out _ _ hHeld ?_
      clear hHeld
      intro hHeld
      clear hKK KK
      try simp only [pA]
      refine tk 3 (v:=?_) rfl (Or.inl ⟨by rfl,?_⟩) ?_
      rotate_left
      ·intro w9 hSw
       go_simp
       try with_reducible rfl
      simp only [pA]
      try simp only [hCb,decide_true,decide_false,gt_iff_lt,ge_iff_le]
      refine tk 4 (v:=?_) rfl (Or.inl ⟨by rfl,?_⟩) ?_
      rotate_left
      ·intro w9 hSw
       go_simp
       try with_reducible rfl
      simp only [pA]
      refine tk 5 (v:=?_) rfl (Or.inl ⟨by rfl,?_⟩) ?_
      rotate_left
      ·intro w9 hSw
       go_simp
       try with_reducible rfl
      simp only [pA]
      refine tk 6 (v:=?_) rfl (Or.inl ⟨by rfl,?_⟩) ?_
      rotate_left
      ·intro w9 hSw
       go_simp
       try with_reducible rfl
      simp only [pA]
      try simp only [j3,decide_true,decide_false,gt_iff_lt,ge_iff_le]
      refine tk 7 (v:=?_) rfl (Or.inl ⟨by rfl,?_⟩) ?_
      rotate_left
      ·intro w9 hSw
       go_simp
       try with_reducible rfl
      simp only [pA]
      refine tk 8 (v:=?_) rfl (Or.inl ⟨by rfl,?_⟩) ?_
      rotate_left
      ·intro w9 hSw
       go_simp
       try with_reducible rfl
      simp only [pA]
      refine tk 9 (v:=?_) rfl (Or.inl ⟨by rfl,?_⟩) ?_
      rotate_left
      ·intro w9 hSw
       go_simp
       try with_reducible rfl
      simp only [pA]
      refine tk 10 (v:=?_) rfl (Or.inl ⟨by rfl,?_⟩) ?_
      rotate_left
      ·intro w9 hSw
       go_simp
       try with_reducible rfl
      simp only [pA]
      try simp only [j2,j4,decide_true,decide_false,gt_iff_lt,ge_iff_le]
      refine tk 11 (v:=?_) rfl (Or.inl ⟨by rfl,?_⟩) ?_
      rotate_left
      ·intro w9 hSw
       go_simp
       try with_reducible rfl
      simp only [pA]
      refine tk 12 (v:=?_) rfl (Or.inl ⟨by rfl,?_⟩) ?_
      rotate_left
      ·intro w9 hSw
       go_simp
       try with_reducible rfl
      simp only [pA]
      refine tk 13 (v:=?_) rfl (Or.inl ⟨by rfl,?_⟩) ?_
      rotate_left
      ·intro w9 hSw
       go_simp
       try with_reducible rfl
      simp only [pA]
      refine tk 14 (v:=?_) rfl (Or.inl ⟨by rfl,?_⟩) ?_
      rotate_left
      ·intro w9 hSw
       go_simp
       try with_reducible rfl
      simp only [pA]
      refine tk 15 (v:=?_) rfl (Or.inl ⟨by rfl,?_⟩) ?_
      rotate_left
      ·intro w9 hSw
       go_simp
       try with_reducible rfl
      simp only [pA]
      refine tk 16 (v:=?_) rfl (Or.inl ⟨by rfl,?_⟩) ?_
      rotate_left
      ·intro w9 hSw
       go_simp
       try with_reducible rfl
      simp only [pA]
      try simp only [hyx,decide_true,decide_false,gt_iff_lt,ge_iff_le]
      refine tk 17 (v:=?_) rfl (Or.inl ⟨by rfl,?_⟩) ?_
      rotate_left
      ·intro w9 hSw
       go_simp
       try with_reducible rfl
      simp only [pA]
      refine tk 18 (v:=?_) rfl (Or.inl ⟨by rfl,?_⟩) ?_
      rotate_left
      ·intro w9 hSw
       go_simp
       try with_reducible rfl
      simp only [pA]
      refine wpAnyH_done (by kernel_rfl) ?_ _
      go_wp2
      go_roundw
      case rel=>exact ⟨k+1,by omega,by go_num,hB,by rw [t1',t3'];exact nrm_last (by rw [t3'] at hN;exact hN) (by show y < x;omega) hv⟩
      case measure=>simp [intOf];omega
  ·obtain rfl:k=L.length:=by omega
   have i1:¬ (L.length:Int) < (L.length:Int):=by omega
   go_wp2
   go_ret
   exact ⟨true,rfl,⟨fun _=>by rw [List.take_length] at hN;exact hN,fun _=>rfl⟩,hB⟩
end Go.Proofs.YtgfmaejhdbmkoaaGreat
