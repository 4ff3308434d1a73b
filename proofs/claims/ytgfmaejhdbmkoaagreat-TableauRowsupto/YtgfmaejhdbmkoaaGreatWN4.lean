import Derived.Test.YtgfmaejhdbmkoaaGreatWN2
set_option linter.unusedSimpArgs false
namespace Go.Proofs.YtgfmaejhdbmkoaaGreat
open Go.RowKit
set_option linter.unusedVariables false
theorem seg_setU {w:World} {p:Option Addr} {X n c o:Nat} {u z:Value} (h:Seg w p X n) (hc:w.cell? ⟨c,o,none⟩=some z) (hz:∀ i,z≠.int .u32 i):Seg (w.setCell ⟨c,o,none⟩ u) p X n:=by
 refine ⟨h.1,fun hn=>?_⟩
 obtain ⟨b,off,rfl,hb,hcell⟩:=h.2 hn
 refine ⟨b,off,rfl,by simpa [World.setCell] using hb,fun i hi=>?_⟩
 have h1:=hcell i hi
 rw [World.cell?_setCell_other _ _ _ _ (fun e=>?_)]
 ·exact h1
 ·rw [←e,hc] at h1
  simp only [Option.some.injEq] at h1
  exact hz _ h1
def Four (w:World) (c:Nat) (u0 u1 u2 u3:Value):Prop :=
 (w.cell? ⟨c,0,none⟩=some u0∧w.cell? ⟨c,1,none⟩=some u1∧w.cell? ⟨c,2,none⟩=some u2∧w.cell? ⟨c,3,none⟩=some u3)∧Row w c
theorem Four.later {w w':World} {c:Nat} {u0 u1 u2 u3:Value} (h:Four w c u0 u1 u2 u3) (hb:Below w.heap.size w w'):Four w' c u0 u1 u2 u3 :=
 ⟨⟨xQ0 hb h.1.1,xQ0 hb h.1.2.1,xQ0 hb h.1.2.2.1,xQ0 hb h.1.2.2.2⟩,xQ3 hb h.2⟩
abbrev set4 (w:World) (c:Nat) (u0 u1 u2 u3:Value):World:=(((w.setCell ⟨c,0,none⟩ u0).setCell ⟨c,1,none⟩ u1).setCell ⟨c,2,none⟩ u2).setCell ⟨c,3,none⟩ u3
theorem Four.put {w:World} {c:Nat} {u0 u1 u2 u3 z0 z1 z2 z3:Value} (h:Four w c z0 z1 z2 z3):Four (set4 w c u0 u1 u2 u3) c u0 u1 u2 u3 :=
 ⟨set4_same h.1.1 h.1.2.1 h.1.2.2.1 h.1.2.2.2,(((h.2.setCell _ _).setCell _ _).setCell _ _).setCell _ _⟩
theorem Four.far {w:World} {c r:Nat} {u0 u1 u2 u3 z0 z1 z2 z3:Value} (h:Four w r z0 z1 z2 z3) (hne:c≠r):Four (set4 w c u0 u1 u2 u3) r z0 z1 z2 z3 :=
 ⟨⟨by rw [xX2 hne];exact h.1.1,by rw [xX2 hne];exact h.1.2.1,by rw [xX2 hne];exact h.1.2.2.1,by rw [xX2 hne];exact h.1.2.2.2⟩,(((h.2.setCell _ _).setCell _ _).setCell _ _).setCell _ _⟩
theorem Four.seg {w:World} {c:Nat} {u0 u1 u2 u3 z0 z1 z2 z3:Value} (h:Four w c z0 z1 z2 z3) (k0:∀ i,z0≠.int .u32 i) (k1:∀ i,z1≠.int .u32 i) (k2:∀ i,z2≠.int .u32 i) (k3:∀ i,z3≠.int .u32 i) {p:Option Addr} {X n:Nat} (hS:Seg w p X n):Seg (set4 w c u0 u1 u2 u3) p X n:=by
 refine seg_setU (z:=z3) (seg_setU (z:=z2) (seg_setU (z:=z1) (seg_setU (z:=z0) hS h.1.1 k0) ?_ k1) ?_ k2) ?_ k3
 ·rw [World.cell?_setCell_other _ _ _ _ (fun e=>by simp at e)];exact h.1.2.1
 ·rw [World.cell?_setCell_other _ _ _ _ (fun e=>by simp at e),World.cell?_setCell_other _ _ _ _ (fun e=>by simp at e)];exact h.1.2.2.1
 ·rw [World.cell?_setCell_other _ _ _ _ (fun e=>by simp at e),World.cell?_setCell_other _ _ _ _ (fun e=>by simp at e),World.cell?_setCell_other _ _ _ _ (fun e=>by simp at e)];exact h.1.2.2.2
theorem below_set4 {B:Nat} {w w':World} {c:Nat} {u0 u1 u2 u3:Value} (h:Below B w w') (hc:B≤c):Below B w (set4 w' c u0 u1 u2 u3):=(((h.setCell hc _).setCell hc _).setCell hc _).setCell hc _
theorem four_new (w:World) (u0 u1 u2 u3:Value) (t:TypeId):Four (w.alloc (.cells #[u0,u1,u2,u3] t)) w.heap.size u0 u1 u2 u3 :=
 ⟨⟨by go_simp,by go_simp,by go_simp,by go_simp⟩,xQ9 w _ t⟩
def Fresh (w:World) (p:Option Addr) (n:Nat):Prop:=0 < n→∀ ad,p=some ad→w.heap.size≤ad.block
theorem New.fr {w w':World} {p:Option Addr} {X n:Nat} (h:New w w' p X n):Fresh w p n:=fun hn ad e=>by
 obtain ⟨c,o,e',hl,_⟩:=h.fresh hn
 rw [e] at e'
 obtain rfl:=Option.some.inj e'
 exact hl
theorem Fresh.mono {w w':World} {p:Option Addr} {n:Nat} (h:Fresh w' p n) (hs:w.heap.size≤w'.heap.size):Fresh w p n:=fun hn ad e=>Nat.le_trans hs (h hn ad e)
set_option maxHeartbeats 4000000 in
set_option maxRecDepth 100000 in
theorem joined_cc (x0 x1:Int) (s0:Bool) (a0:Option Addr) (n0 c0 X0:Nat) (b0:Option Addr) (m0 d0 Y0:Nat) (s1:Bool) (a1:Option Addr) (n1 c1 X1:Nat) (b1:Option Addr) (m1 d1 Y1:Nat) (Z:Int) (V:Nat) (C:Int) (d:Bool) (w:World) (hc0:n0≤c0) (hm0:n0≤1099511627776) (hS0:Seg w a0 X0 n0) (hd0:m0≤d0) (hk0:m0≤1099511627776) (hT0:Seg w b0 Y0 m0) (hc1:n1≤c1) (hm1:n1≤1099511627776) (hS1:Seg w a1 X1 n1) (hd1:m1≤d1) (hk1:m1≤1099511627776) (hT1:Seg w b1 Y1 m1) (hL:Low (rn s0 X0 Y0*(rd Y1:Nat)+rn s1 X1 Y1*(rd Y0:Nat)) ((rd Y0:Nat)*(rd Y1:Nat)) Z V) (hC:sgn Z=C) (hd:d=(!decide (C=0))) (l1:ln (am Z)≤35184372087808) (l2:ln V≤35184372087808) :
  Calls Tryz.prog 97 #[Value.agg #[Value.int .i64 x0,Value.bool s0,Value.slice a0 n0 c0,Value.slice b0 m0 d0],Value.agg #[Value.int .i64 x1,Value.bool s1,Value.slice a1 n1 c1,Value.slice b1 m1 d1]] w fun e w'=>∃ p q,e=.returned (.tuple #[.agg #[.int .i64 x0,.bool (ng Z),.slice p (ln (am Z)) (ln (am Z)),.slice q (ln V) (ln V)],.bool d])∧Below w.heap.size w w'∧Seg w' p (am Z) (ln (am Z))∧Seg w' q V (ln V)∧Fresh w p (ln (am Z))∧Fresh w q (ln V):=by
 have vp:=hL.pos
 have GA:=xQ1 (fun w' k1 k2 k3 k4=>qAdd_is s0 a0 n0 c0 X0 b0 m0 d0 Y0 s1 a1 n1 c1 X1 b1 m1 d1 Y1 Z V w' hc0 (by omega) k1 hd0 (by omega) k2 hc1 (by omega) k3 hd1 (by omega) k4 hL)
 have GS:=xQ1 (fun w' p q k1 k2=>qSign_is (ng Z) p (ln (am Z)) (ln (am Z)) (am Z) q (ln V) (ln V) V C w' (Nat.le_refl _) (Nat.le_trans l1 (by omega)) k1 (Nat.le_refl _) (Nat.le_trans l2 (by omega)) k2 (by rw [rn_nf vp];exact hC))
 have dC:d=true∧¬ (C=0)∨d=false∧C=0:=by rw [hd];by_cases h:C=0 <;> simp [h]
 clear hL hC hd l1 l2 vp
 go_enter Tryz.func97,Tryz.ntmps97
 go_upto_region 1 with fail
 obtain ⟨W,hW⟩:∃ W,(((w.alloc (.cells #[.int .i64 x0,.bool s0,.slice a0 n0 c0,.slice b0 m0 d0] 57)).alloc (.cells #[.int .i64 x1,.bool s1,.slice a1 n1 c1,.slice b1 m1 d1] 57)).alloc (.cells #[.int .i64 0,.bool false,.slice none 0 0,.slice none 0 0] 57))=W:=⟨_,rfl⟩
 have q00:W.cell? ⟨w.heap.size,0,none⟩=some (.int .i64 x0):=by subst hW;go_simp
 have q01:W.cell? ⟨w.heap.size,1,none⟩=some (.bool s0):=by subst hW;go_simp
 have q02:W.cell? ⟨w.heap.size,2,none⟩=some (.slice a0 n0 c0):=by subst hW;go_simp
 have q03:W.cell? ⟨w.heap.size,3,none⟩=some (.slice b0 m0 d0):=by subst hW;go_simp
 have q10:W.cell? ⟨w.heap.size+1,0,none⟩=some (.int .i64 x1):=by subst hW;go_simp
 have q11:W.cell? ⟨w.heap.size+1,1,none⟩=some (.bool s1):=by subst hW;go_simp
 have q12:W.cell? ⟨w.heap.size+1,2,none⟩=some (.slice a1 n1 c1):=by subst hW;go_simp
 have q13:W.cell? ⟨w.heap.size+1,3,none⟩=some (.slice b1 m1 d1):=by subst hW;go_simp
 have r00:W.cell? ⟨w.heap.size+1+1,0,none⟩=some (.int .i64 0):=by subst hW;go_simp
 have r01:W.cell? ⟨w.heap.size+1+1,1,none⟩=some (.bool false):=by subst hW;go_simp
 have r02:W.cell? ⟨w.heap.size+1+1,2,none⟩=some (.slice none 0 0):=by subst hW;go_simp
 have r03:W.cell? ⟨w.heap.size+1+1,3,none⟩=some (.slice none 0 0):=by subst hW;go_simp
 have hB:Below w.heap.size w W:=by subst hW;exact ((((Below.refl _ _).alloc (by (try simp only [World.size_alloc]);omega) _).alloc (by (try simp only [World.size_alloc]);omega) _).alloc (by (try simp only [World.size_alloc]);omega) _)
 have hR0:Row W (w.heap.size+1+1):=by
  have:=xQ9 (((w.alloc (.cells #[.int .i64 x0,.bool s0,.slice a0 n0 c0,.slice b0 m0 d0] 57)).alloc (.cells #[.int .i64 x1,.bool s1,.slice a1 n1 c1,.slice b1 m1 d1] 57))) #[.int .i64 0,.bool false,.slice none 0 0,.slice none 0 0] 57
  try simp only [World.size_alloc] at this
  subst hW;exact this
 have hz:W.heap.size=w.heap.size+1+1+1:=by subst hW;simp only [World.size_alloc]
 rw [hW]
 clear hW
 have hBW:Below W.heap.size W W:=Below.refl _ _
 have res:Four W (w.heap.size+1+1) (.int .i64 0) (.bool false) (.slice none 0 0) (.slice none 0 0):=⟨⟨r00,r01,r02,r03⟩,hR0⟩
 have hB9:=hB
 have hS0:=hS0.later hB
 have hT0:=hT0.later hB
 have hS1:=hS1.later hB
 have hT1:=hT1.later hB
 clear r00 r01 r02 r03 hR0 hBW
 go_cut [6] from 7 to 14 (fun s6 wx=>∃ wv c p q,wv=wx∧s6=.pointer (some ⟨c,0,none⟩)∧Four wx c (.int .i64 x0) (.bool (ng Z)) (.slice p (ln (am Z)) (ln (am Z))) (.slice q (ln V) (ln V))∧Four wx (w.heap.size+1+1) (.int .i64 0) (.bool false) (.slice none 0 0) (.slice none 0 0)∧Below w.heap.size w wx∧Seg wx p (am Z) (ln (am Z))∧Seg wx q V (ln V)∧Fresh w p (ln (am Z))∧Fresh w q (ln V)∧w.heap.size+1+1 < c)
 case first =>
  clear GS dC
  have bD:Below W.heap.size W W.drew:=(Below.refl _ _).drew
  have kq00:=xQ0 bD q00
  have kq01:=xQ0 bD q01
  have kq02:=xQ0 bD q02
  have kq03:=xQ0 bD q03
  have kq10:=xQ0 bD q10
  have kq11:=xQ0 bD q11
  have kq12:=xQ0 bD q12
  have kq13:=xQ0 bD q13
  replace hB9:=hB9.trans (bD.mono hB9.size)
  replace hS0:=hS0.later bD
  replace hT0:=hT0.later bD
  replace hS1:=hS1.later bD
  replace hT1:=hT1.later bD
  replace res:=res.later bD
  refine wp_region_held_drew (S:=fun w'=>w'.cell? ⟨w.heap.size,0,none⟩=some (.int .i64 x0)∧w'.cell? ⟨w.heap.size,1,none⟩=some (.bool s0)∧w'.cell? ⟨w.heap.size,2,none⟩=some (.slice a0 n0 c0)∧w'.cell? ⟨w.heap.size,3,none⟩=some (.slice b0 m0 d0)∧w'.cell? ⟨w.heap.size+1,0,none⟩=some (.int .i64 x1)∧w'.cell? ⟨w.heap.size+1,1,none⟩=some (.bool s1)∧w'.cell? ⟨w.heap.size+1,2,none⟩=some (.slice a1 n1 c1)∧w'.cell? ⟨w.heap.size+1,3,none⟩=some (.slice b1 m1 d1)) (by kernel_rfl) ⟨kq00,kq01,kq02,kq03,kq10,kq11,kq12,kq13⟩ (fun hHeld=>?_)
  clear kq00 kq01 kq02 kq03 kq10 kq11 kq12 kq13
  generalize W.drew=w0 at bD hS0 hT0 hS1 hT1 res hB9 hHeld ⊢
  clear q00 q01 q02 q03 q10 q11 q12 q13
  have hs0:w.heap.size+1+1 < w0.heap.size:=by have:=bD.size;omega
  clear bD hz hB
  refine tk 0 (v:=?_) rfl (Or.inl ⟨by rfl,?_⟩) ?_
  rotate_left
  ·intro w9 hSw
   go_simp
   try with_reducible rfl
  simp only [pA]
  refine tk 1 (v:=?_) rfl (Or.inl ⟨by rfl,?_⟩) ?_
  rotate_left
  ·intro w9 hSw
   go_simp
   try with_reducible rfl
  simp only [pA]
  refine tk 2 (v:=?_) rfl (Or.inl ⟨by rfl,?_⟩) ?_
  rotate_left
  ·intro w9 hSw
   go_simp
   try with_reducible rfl
  simp only [pA]
  refine tk 3 (v:=?_) rfl (Or.inl ⟨by rfl,?_⟩) ?_
  rotate_left
  ·intro w9 hSw
   go_simp
   try with_reducible rfl
  simp only [pA]
  refine tk 4 (v:=?_) rfl (Or.inl ⟨by rfl,?_⟩) ?_
  rotate_left
  ·intro w9 hSw
   go_simp
   try with_reducible rfl
  simp only [pA]
  refine tk 5 (v:=?_) rfl (Or.inl ⟨by rfl,?_⟩) ?_
  rotate_left
  ·intro w9 hSw
   go_simp
   try with_reducible rfl
  simp only [pA]
  refine wpAnyH_ready (rs:=[6,8]) (by kernel_rfl) (by simp) ?_
  refine consT rfl (fun KK hKK=>?_) ?_
  ·skip
   have hsA:=hB9.size
   go_simp
   refine (GA.out _ hS0 hT0 hS1 hT1).mono ?_
   rintro e w2 ⟨p,q,rfl,n1,n2⟩
   have bC:=n1.below
   have f1:=n1.fr.mono hsA
   have f2:=n2.fr.mono hsA
   have g1:=n1.seg
   have g2:=n2.seg
   clear n1 n2 hsA
   replace hB9:=hB9.trans (bC.mono hB9.size)
   replace hS0:=hS0.later bC
   replace hT0:=hT0.later bC
   replace hS1:=hS1.later bC
   replace hT1:=hT1.later bC
   replace res:=res.later bC
   replace hHeld:=(⟨xQ0 bC hHeld.1,xQ0 bC hHeld.2.1,xQ0 bC hHeld.2.2.1,xQ0 bC hHeld.2.2.2.1,xQ0 bC hHeld.2.2.2.2.1,xQ0 bC hHeld.2.2.2.2.2.1,xQ0 bC hHeld.2.2.2.2.2.2.1,xQ0 bC hHeld.2.2.2.2.2.2.2⟩:_∧_∧_∧_∧_∧_∧_∧_)
   go_wp2_with fail
   refine hKK.out _ _ hHeld ?_
   clear hHeld
   intro hHeld
   clear hKK KK
   try simp only [pA]
   refine tk 7 (v:=?_) rfl (Or.inl ⟨by rfl,?_⟩) ?_
   rotate_left
   ·intro w9 hSw
    go_simp
    try with_reducible rfl
   simp only [pA]
   refine wpAnyH_ready (rs:=[8]) (by kernel_rfl) (by simp) ?_
   refine xX0 rfl (fun KK hKK=>?_)
   go_simp
   have vN:=four_new w2 (.int .i64 0) (.bool false) (.slice none 0 0) (.slice none 0 0) 57
   have bA:=xQ2 (w:=w2) (.cells #[.int .i64 0,.bool false,.slice none 0 0,.slice none 0 0] 57)
   have hcA:w2.heap.size < (w2.alloc (.cells #[.int .i64 0,.bool false,.slice none 0 0,.slice none 0 0] 57)).heap.size:=by simp only [World.size_alloc];omega
   have hc9:w.heap.size≤w2.heap.size:=hB9.size
   have hcr:w.heap.size+1+1 < w2.heap.size:=res.2.lt
   generalize w2.alloc (.cells #[.int .i64 0,.bool false,.slice none 0 0,.slice none 0 0] 57)=w3 at vN bA hcA ⊢
   replace hB9:=hB9.trans (bA.mono hB9.size)
   replace hS0:=hS0.later bA
   replace hT0:=hT0.later bA
   replace hS1:=hS1.later bA
   replace hT1:=hT1.later bA
   replace res:=res.later bA
   replace g1:=g1.later bA
   replace g2:=g2.later bA
   replace hHeld:=(⟨xQ0 bA hHeld.1,xQ0 bA hHeld.2.1,xQ0 bA hHeld.2.2.1,xQ0 bA hHeld.2.2.2.1,xQ0 bA hHeld.2.2.2.2.1,xQ0 bA hHeld.2.2.2.2.2.1,xQ0 bA hHeld.2.2.2.2.2.2.1,xQ0 bA hHeld.2.2.2.2.2.2.2⟩:_∧_∧_∧_∧_∧_∧_∧_)
   clear bA
   refine hKK.out _ _ hHeld ?_
   clear hHeld
   intro hHeld
   clear hKK KK
   try simp only [pA]
   obtain ⟨cc,hcc⟩:∃ cc,w2.heap.size=cc:=⟨_,rfl⟩
   rw [hcc] at vN hcA hcr hc9
   try rw [hcc]
   clear hcc
   refine wpAnyH_ready (rs:=[9]) (by kernel_rfl) (by simp) ?_
   refine xX0 rfl (fun KK hKK=>?_)
   have fz:=fun o=>vN.2.frozen o
   replace g1:=vN.seg (u0:=.int .i64 x0) (u1:=.bool (ng Z)) (u2:=.slice p (ln (am Z)) (ln (am Z))) (u3:=.slice q (ln V) (ln V)) (by simp) (by simp) (by simp) (by simp) g1
   replace g2:=vN.seg (u0:=.int .i64 x0) (u1:=.bool (ng Z)) (u2:=.slice p (ln (am Z)) (ln (am Z))) (u3:=.slice q (ln V) (ln V)) (by simp) (by simp) (by simp) (by simp) g2
   replace res:=res.far (c:=cc) (u0:=.int .i64 x0) (u1:=.bool (ng Z)) (u2:=.slice p (ln (am Z)) (ln (am Z))) (u3:=.slice q (ln V) (ln V)) (by omega)
   replace hB9:=below_set4 (u0:=.int .i64 x0) (u1:=.bool (ng Z)) (u2:=.slice p (ln (am Z)) (ln (am Z))) (u3:=.slice q (ln V) (ln V)) hB9 hc9
   have hH2:=(⟨(xX2 (w:=w3) (c:=cc) (b:=w.heap.size) (o:=0) (u0:=.int .i64 x0) (u1:=.bool (ng Z)) (u2:=.slice p (ln (am Z)) (ln (am Z))) (u3:=.slice q (ln V) (ln V)) (by omega)).trans hHeld.1,(xX2 (w:=w3) (c:=cc) (b:=w.heap.size) (o:=1) (u0:=.int .i64 x0) (u1:=.bool (ng Z)) (u2:=.slice p (ln (am Z)) (ln (am Z))) (u3:=.slice q (ln V) (ln V)) (by omega)).trans hHeld.2.1,(xX2 (w:=w3) (c:=cc) (b:=w.heap.size) (o:=2) (u0:=.int .i64 x0) (u1:=.bool (ng Z)) (u2:=.slice p (ln (am Z)) (ln (am Z))) (u3:=.slice q (ln V) (ln V)) (by omega)).trans hHeld.2.2.1,(xX2 (w:=w3) (c:=cc) (b:=w.heap.size) (o:=3) (u0:=.int .i64 x0) (u1:=.bool (ng Z)) (u2:=.slice p (ln (am Z)) (ln (am Z))) (u3:=.slice q (ln V) (ln V)) (by omega)).trans hHeld.2.2.2.1,(xX2 (w:=w3) (c:=cc) (b:=w.heap.size+1) (o:=0) (u0:=.int .i64 x0) (u1:=.bool (ng Z)) (u2:=.slice p (ln (am Z)) (ln (am Z))) (u3:=.slice q (ln V) (ln V)) (by omega)).trans hHeld.2.2.2.2.1,(xX2 (w:=w3) (c:=cc) (b:=w.heap.size+1) (o:=1) (u0:=.int .i64 x0) (u1:=.bool (ng Z)) (u2:=.slice p (ln (am Z)) (ln (am Z))) (u3:=.slice q (ln V) (ln V)) (by omega)).trans hHeld.2.2.2.2.2.1,(xX2 (w:=w3) (c:=cc) (b:=w.heap.size+1) (o:=2) (u0:=.int .i64 x0) (u1:=.bool (ng Z)) (u2:=.slice p (ln (am Z)) (ln (am Z))) (u3:=.slice q (ln V) (ln V)) (by omega)).trans hHeld.2.2.2.2.2.2.1,(xX2 (w:=w3) (c:=cc) (b:=w.heap.size+1) (o:=3) (u0:=.int .i64 x0) (u1:=.bool (ng Z)) (u2:=.slice p (ln (am Z)) (ln (am Z))) (u3:=.slice q (ln V) (ln V)) (by omega)).trans hHeld.2.2.2.2.2.2.2⟩:_∧_∧_∧_∧_∧_∧_∧_)
   have vN2:=vN.put (u0:=.int .i64 x0) (u1:=.bool (ng Z)) (u2:=.slice p (ln (am Z)) (ln (am Z))) (u3:=.slice q (ln V) (ln V))
   have z0:=vN.1.1
   have z1:=vN.1.2.1
   have z2:=vN.1.2.2.1
   have z3:=vN.1.2.2.2
   go_simp
   clear z0 z1 z2 z3 vN fz
   refine hKK.out _ _ hH2 ?_
   clear hHeld
   intro hHeld
   clear hKK KK
   try simp only [pA]
   clear hH2 hHeld hcA
   refine wpAnyH_done (by kernel_rfl) ?_ _
   go_wp2_with fail
   go_meet
   exact ⟨_,cc,p,q,rfl,rfl,vN2,res,hB9,g1,g2,f1,f2,hcr⟩
  refine consT rfl (fun KK hKK=>?_) ?_
  ·skip
   go_simp
   have vN:=four_new w0 (.int .i64 0) (.bool false) (.slice none 0 0) (.slice none 0 0) 57
   have bA:=xQ2 (w:=w0) (.cells #[.int .i64 0,.bool false,.slice none 0 0,.slice none 0 0] 57)
   have hcA:w0.heap.size < (w0.alloc (.cells #[.int .i64 0,.bool false,.slice none 0 0,.slice none 0 0] 57)).heap.size:=by simp only [World.size_alloc];omega
   have hc9:w.heap.size≤w0.heap.size:=hB9.size
   have hcr:w.heap.size+1+1 < w0.heap.size:=res.2.lt
   generalize w0.alloc (.cells #[.int .i64 0,.bool false,.slice none 0 0,.slice none 0 0] 57)=w3 at vN bA hcA ⊢
   replace hB9:=hB9.trans (bA.mono hB9.size)
   replace hS0:=hS0.later bA
   replace hT0:=hT0.later bA
   replace hS1:=hS1.later bA
   replace hT1:=hT1.later bA
   replace res:=res.later bA
   replace hHeld:=(⟨xQ0 bA hHeld.1,xQ0 bA hHeld.2.1,xQ0 bA hHeld.2.2.1,xQ0 bA hHeld.2.2.2.1,xQ0 bA hHeld.2.2.2.2.1,xQ0 bA hHeld.2.2.2.2.2.1,xQ0 bA hHeld.2.2.2.2.2.2.1,xQ0 bA hHeld.2.2.2.2.2.2.2⟩:_∧_∧_∧_∧_∧_∧_∧_)
   clear bA
   refine hKK.out _ _ hHeld ?_
   clear hHeld
   intro hHeld
   clear hKK KK
   try simp only [pA]
   obtain ⟨cc,hcc⟩:∃ cc,w0.heap.size=cc:=⟨_,rfl⟩
   rw [hcc] at vN hcA hcr hc9
   try rw [hcc]
   clear hcc
   refine wpAnyH_ready (rs:=[6]) (by kernel_rfl) (by simp) ?_
   refine xX0 rfl (fun KK hKK=>?_)
   have hsA:=hB9.size
   go_simp
   refine (GA.out _ hS0 hT0 hS1 hT1).mono ?_
   rintro e w2 ⟨p,q,rfl,n1,n2⟩
   have bC:=n1.below
   have f1:=n1.fr.mono hsA
   have f2:=n2.fr.mono hsA
   have g1:=n1.seg
   have g2:=n2.seg
   clear n1 n2 hsA
   replace hB9:=hB9.trans (bC.mono hB9.size)
   replace hS0:=hS0.later bC
   replace hT0:=hT0.later bC
   replace hS1:=hS1.later bC
   replace hT1:=hT1.later bC
   replace res:=res.later bC
   replace vN:=vN.later bC
   replace hHeld:=(⟨xQ0 bC hHeld.1,xQ0 bC hHeld.2.1,xQ0 bC hHeld.2.2.1,xQ0 bC hHeld.2.2.2.1,xQ0 bC hHeld.2.2.2.2.1,xQ0 bC hHeld.2.2.2.2.2.1,xQ0 bC hHeld.2.2.2.2.2.2.1,xQ0 bC hHeld.2.2.2.2.2.2.2⟩:_∧_∧_∧_∧_∧_∧_∧_)
   go_wp2_with fail
   refine hKK.out _ _ hHeld ?_
   clear hHeld
   intro hHeld
   clear hKK KK
   try simp only [pA]
   refine tk 7 (v:=?_) rfl (Or.inl ⟨by rfl,?_⟩) ?_
   rotate_left
   ·intro w9 hSw
    go_simp
    try with_reducible rfl
   simp only [pA]
   refine wpAnyH_ready (rs:=[9]) (by kernel_rfl) (by simp) ?_
   refine xX0 rfl (fun KK hKK=>?_)
   have fz:=fun o=>vN.2.frozen o
   replace g1:=vN.seg (u0:=.int .i64 x0) (u1:=.bool (ng Z)) (u2:=.slice p (ln (am Z)) (ln (am Z))) (u3:=.slice q (ln V) (ln V)) (by simp) (by simp) (by simp) (by simp) g1
   replace g2:=vN.seg (u0:=.int .i64 x0) (u1:=.bool (ng Z)) (u2:=.slice p (ln (am Z)) (ln (am Z))) (u3:=.slice q (ln V) (ln V)) (by simp) (by simp) (by simp) (by simp) g2
   replace res:=res.far (c:=cc) (u0:=.int .i64 x0) (u1:=.bool (ng Z)) (u2:=.slice p (ln (am Z)) (ln (am Z))) (u3:=.slice q (ln V) (ln V)) (by omega)
   replace hB9:=below_set4 (u0:=.int .i64 x0) (u1:=.bool (ng Z)) (u2:=.slice p (ln (am Z)) (ln (am Z))) (u3:=.slice q (ln V) (ln V)) hB9 hc9
   have hH2:=(⟨(xX2 (w:=w2) (c:=cc) (b:=w.heap.size) (o:=0) (u0:=.int .i64 x0) (u1:=.bool (ng Z)) (u2:=.slice p (ln (am Z)) (ln (am Z))) (u3:=.slice q (ln V) (ln V)) (by omega)).trans hHeld.1,(xX2 (w:=w2) (c:=cc) (b:=w.heap.size) (o:=1) (u0:=.int .i64 x0) (u1:=.bool (ng Z)) (u2:=.slice p (ln (am Z)) (ln (am Z))) (u3:=.slice q (ln V) (ln V)) (by omega)).trans hHeld.2.1,(xX2 (w:=w2) (c:=cc) (b:=w.heap.size) (o:=2) (u0:=.int .i64 x0) (u1:=.bool (ng Z)) (u2:=.slice p (ln (am Z)) (ln (am Z))) (u3:=.slice q (ln V) (ln V)) (by omega)).trans hHeld.2.2.1,(xX2 (w:=w2) (c:=cc) (b:=w.heap.size) (o:=3) (u0:=.int .i64 x0) (u1:=.bool (ng Z)) (u2:=.slice p (ln (am Z)) (ln (am Z))) (u3:=.slice q (ln V) (ln V)) (by omega)).trans hHeld.2.2.2.1,(xX2 (w:=w2) (c:=cc) (b:=w.heap.size+1) (o:=0) (u0:=.int .i64 x0) (u1:=.bool (ng Z)) (u2:=.slice p (ln (am Z)) (ln (am Z))) (u3:=.slice q (ln V) (ln V)) (by omega)).trans hHeld.2.2.2.2.1,(xX2 (w:=w2) (c:=cc) (b:=w.heap.size+1) (o:=1) (u0:=.int .i64 x0) (u1:=.bool (ng Z)) (u2:=.slice p (ln (am Z)) (ln (am Z))) (u3:=.slice q (ln V) (ln V)) (by omega)).trans hHeld.2.2.2.2.2.1,(xX2 (w:=w2) (c:=cc) (b:=w.heap.size+1) (o:=2) (u0:=.int .i64 x0) (u1:=.bool (ng Z)) (u2:=.slice p (ln (am Z)) (ln (am Z))) (u3:=.slice q (ln V) (ln V)) (by omega)).trans hHeld.2.2.2.2.2.2.1,(xX2 (w:=w2) (c:=cc) (b:=w.heap.size+1) (o:=3) (u0:=.int .i64 x0) (u1:=.bool (ng Z)) (u2:=.slice p (ln (am Z)) (ln (am Z))) (u3:=.slice q (ln V) (ln V)) (by omega)).trans hHeld.2.2.2.2.2.2.2⟩:_∧_∧_∧_∧_∧_∧_∧_)
   have vN2:=vN.put (u0:=.int .i64 x0) (u1:=.bool (ng Z)) (u2:=.slice p (ln (am Z)) (ln (am Z))) (u3:=.slice q (ln V) (ln V))
   have z0:=vN.1.1
   have z1:=vN.1.2.1
   have z2:=vN.1.2.2.1
   have z3:=vN.1.2.2.2
   go_simp
   clear z0 z1 z2 z3 vN fz
   refine hKK.out _ _ hH2 ?_
   clear hHeld
   intro hHeld
   clear hKK KK
   try simp only [pA]
   clear hH2 hHeld hcA
   refine wpAnyH_done (by kernel_rfl) ?_ _
   go_wp2_with fail
   go_meet
   exact ⟨_,cc,p,q,rfl,rfl,vN2,res,hB9,g1,g2,f1,f2,hcr⟩
  exact AllReadyH.nil
 case rest =>
  clear GA hS0 hT0 hS1 hT1 hB9 res q00 q01 q02 q03 q10 q11 q12 q13 hB hz
  obtain ⟨wv,c,p,q,hwv,rfl,vc,res,hB,g1,g2,f1,f2,hcr⟩:=hcut
  subst hwv
  obtain ⟨⟨v0,v1,v2,v3⟩,vR⟩:=vc
  rcases dC with ⟨rfl,hC⟩ | ⟨rfl,rfl⟩
  ·go_wp2_with fail
   have bD:Below wv.heap.size wv wv.drew:=(Below.refl _ _).drew
   have kv0:=xQ0 bD v0
   have kv1:=xQ0 bD v1
   have kv2:=xQ0 bD v2
   have kv3:=xQ0 bD v3
   replace hB:=hB.trans (bD.mono hB.size)
   replace g1:=g1.later bD
   replace g2:=g2.later bD
   replace res:=res.later bD
   refine wp_region_held_drew (S:=fun w'=>w'.cell? ⟨c,0,none⟩=some (.int .i64 x0)∧w'.cell? ⟨c,1,none⟩=some (.bool (ng Z))∧w'.cell? ⟨c,2,none⟩=some (.slice p (ln (am Z)) (ln (am Z)))∧w'.cell? ⟨c,3,none⟩=some (.slice q (ln V) (ln V))) (by kernel_rfl) ⟨kv0,kv1,kv2,kv3⟩ (fun hHeld=>?_)
   clear kv0 kv1 kv2 kv3
   generalize wv.drew=w0 at bD g1 g2 res hB hHeld ⊢
   clear v0 v1 v2 v3 vR
   refine tk 0 (v:=?_) rfl (Or.inl ⟨by rfl,?_⟩) ?_
   rotate_left
   ·intro w9 hSw
    go_simp
    try with_reducible rfl
   simp only [pA]
   refine tk 1 (v:=?_) rfl (Or.inl ⟨by rfl,?_⟩) ?_
   rotate_left
   ·intro w9 hSw
    go_simp
    try with_reducible rfl
   simp only [pA]
   refine tk 2 (v:=?_) rfl (Or.inl ⟨by rfl,?_⟩) ?_
   rotate_left
   ·intro w9 hSw
    go_simp
    try with_reducible rfl
   simp only [pA]
   refine wpAnyH_ready (rs:=[3]) (by kernel_rfl) (by simp) ?_
   refine xX0 rfl (fun KK hKK=>?_)
   go_simp
   refine (GS.out _ p q g1 g2).mono ?_
   rintro e w6 ⟨rfl,b6⟩
   have bC:=b6
   replace hB:=hB.trans (bC.mono hB.size)
   replace g1:=g1.later bC
   replace g2:=g2.later bC
   replace res:=res.later bC
   replace hHeld:=(⟨xQ0 bC hHeld.1,xQ0 bC hHeld.2.1,xQ0 bC hHeld.2.2.1,xQ0 bC hHeld.2.2.2⟩:_∧_∧_∧_)
   clear bC
   go_wp2_with fail
   refine hKK.out _ _ hHeld ?_
   clear hHeld
   intro hHeld
   clear hKK KK
   try simp only [pA]
   refine tk 4 (v:=?_) rfl (Or.inl ⟨by rfl,?_⟩) ?_
   rotate_left
   ·intro w9 hSw
    go_simp
    try with_reducible rfl
   simp only [pA]
   refine wpAnyH_ready (rs:=[5]) (by kernel_rfl) (by simp) ?_
   refine xX0 rfl (fun KK hKK=>?_)
   have fz:=fun o=>res.2.frozen o
   have z0:=res.1.1
   have z1:=res.1.2.1
   have z2:=res.1.2.2.1
   have z3:=res.1.2.2.2
   replace g1:=res.seg (u0:=.int .i64 x0) (u1:=.bool (ng Z)) (u2:=.slice p (ln (am Z)) (ln (am Z))) (u3:=.slice q (ln V) (ln V)) (by simp) (by simp) (by simp) (by simp) g1
   replace g2:=res.seg (u0:=.int .i64 x0) (u1:=.bool (ng Z)) (u2:=.slice p (ln (am Z)) (ln (am Z))) (u3:=.slice q (ln V) (ln V)) (by simp) (by simp) (by simp) (by simp) g2
   replace hB:=below_set4 (u0:=.int .i64 x0) (u1:=.bool (ng Z)) (u2:=.slice p (ln (am Z)) (ln (am Z))) (u3:=.slice q (ln V) (ln V)) hB (show w.heap.size≤w.heap.size+1+1 by omega)
   have hH2:=(⟨(xX2 (w:=w6) (c:=w.heap.size+1+1) (b:=c) (o:=0) (u0:=.int .i64 x0) (u1:=.bool (ng Z)) (u2:=.slice p (ln (am Z)) (ln (am Z))) (u3:=.slice q (ln V) (ln V)) (by omega)).trans hHeld.1,(xX2 (w:=w6) (c:=w.heap.size+1+1) (b:=c) (o:=1) (u0:=.int .i64 x0) (u1:=.bool (ng Z)) (u2:=.slice p (ln (am Z)) (ln (am Z))) (u3:=.slice q (ln V) (ln V)) (by omega)).trans hHeld.2.1,(xX2 (w:=w6) (c:=w.heap.size+1+1) (b:=c) (o:=2) (u0:=.int .i64 x0) (u1:=.bool (ng Z)) (u2:=.slice p (ln (am Z)) (ln (am Z))) (u3:=.slice q (ln V) (ln V)) (by omega)).trans hHeld.2.2.1,(xX2 (w:=w6) (c:=w.heap.size+1+1) (b:=c) (o:=3) (u0:=.int .i64 x0) (u1:=.bool (ng Z)) (u2:=.slice p (ln (am Z)) (ln (am Z))) (u3:=.slice q (ln V) (ln V)) (by omega)).trans hHeld.2.2.2⟩:_∧_∧_∧_)
   have res2:=res.put (u0:=.int .i64 x0) (u1:=.bool (ng Z)) (u2:=.slice p (ln (am Z)) (ln (am Z))) (u3:=.slice q (ln V) (ln V))
   go_simp
   clear z0 z1 z2 z3 fz res
   refine hKK.out _ _ hH2 ?_
   clear hHeld
   intro hHeld
   clear hKK KK
   try simp only [pA]
   clear hH2
   replace res:=res2
   clear res2
   try unfold set4 at g1
   try unfold set4 at g2
   try unfold set4 at res
   try unfold set4 at hB
   try unfold set4 at hHeld
   generalize ((((w6.setCell ⟨w.heap.size+1+1,0,none⟩ (.int .i64 x0)).setCell ⟨w.heap.size+1+1,1,none⟩ (.bool (ng Z))).setCell ⟨w.heap.size+1+1,2,none⟩ (.slice p (ln (am Z)) (ln (am Z)))).setCell ⟨w.heap.size+1+1,3,none⟩ (.slice q (ln V) (ln V)))=w7 at g1 g2 res hB hHeld ⊢
   refine tk 6 (v:=?_) rfl (Or.inl ⟨by rfl,?_⟩) ?_
   rotate_left
   ·intro w9 hSw
    go_simp
    try with_reducible rfl
   simp only [pA]
   refine wpAnyH_done (by kernel_rfl) ?_ _
   obtain ⟨⟨z0,z1,z2,z3⟩,zR⟩:=res
   go_wp2
   refine bodyPost_ret (v:=.tuple #[.agg #[.int .i64 x0,.bool (ng Z),.slice p (ln (am Z)) (ln (am Z)),.slice q (ln V) (ln V)],.bool true]) (by rw [results_ct rfl];go_simp) rfl ?_
   exact ⟨p,q,rfl,hB,g1,g2,f1,f2⟩
  ·go_wp2_with fail
   have bD:Below wv.heap.size wv wv.drew:=(Below.refl _ _).drew
   have kv0:=xQ0 bD v0
   have kv1:=xQ0 bD v1
   have kv2:=xQ0 bD v2
   have kv3:=xQ0 bD v3
   replace hB:=hB.trans (bD.mono hB.size)
   replace g1:=g1.later bD
   replace g2:=g2.later bD
   replace res:=res.later bD
   refine wp_region_held_drew (S:=fun w'=>w'.cell? ⟨c,0,none⟩=some (.int .i64 x0)∧w'.cell? ⟨c,1,none⟩=some (.bool (ng Z))∧w'.cell? ⟨c,2,none⟩=some (.slice p (ln (am Z)) (ln (am Z)))∧w'.cell? ⟨c,3,none⟩=some (.slice q (ln V) (ln V))) (by kernel_rfl) ⟨kv0,kv1,kv2,kv3⟩ (fun hHeld=>?_)
   clear kv0 kv1 kv2 kv3
   generalize wv.drew=w0 at bD g1 g2 res hB hHeld ⊢
   clear v0 v1 v2 v3 vR
   refine tk 0 (v:=?_) rfl (Or.inl ⟨by rfl,?_⟩) ?_
   rotate_left
   ·intro w9 hSw
    go_simp
    try with_reducible rfl
   simp only [pA]
   refine tk 1 (v:=?_) rfl (Or.inl ⟨by rfl,?_⟩) ?_
   rotate_left
   ·intro w9 hSw
    go_simp
    try with_reducible rfl
   simp only [pA]
   refine tk 2 (v:=?_) rfl (Or.inl ⟨by rfl,?_⟩) ?_
   rotate_left
   ·intro w9 hSw
    go_simp
    try with_reducible rfl
   simp only [pA]
   refine wpAnyH_ready (rs:=[3]) (by kernel_rfl) (by simp) ?_
   refine xX0 rfl (fun KK hKK=>?_)
   go_simp
   refine (GS.out _ p q g1 g2).mono ?_
   rintro e w6 ⟨rfl,b6⟩
   have bC:=b6
   replace hB:=hB.trans (bC.mono hB.size)
   replace g1:=g1.later bC
   replace g2:=g2.later bC
   replace res:=res.later bC
   replace hHeld:=(⟨xQ0 bC hHeld.1,xQ0 bC hHeld.2.1,xQ0 bC hHeld.2.2.1,xQ0 bC hHeld.2.2.2⟩:_∧_∧_∧_)
   clear bC
   go_wp2_with fail
   refine hKK.out _ _ hHeld ?_
   clear hHeld
   intro hHeld
   clear hKK KK
   try simp only [pA]
   refine tk 4 (v:=?_) rfl (Or.inl ⟨by rfl,?_⟩) ?_
   rotate_left
   ·intro w9 hSw
    go_simp
    try with_reducible rfl
   simp only [pA]
   refine wpAnyH_ready (rs:=[5]) (by kernel_rfl) (by simp) ?_
   refine xX0 rfl (fun KK hKK=>?_)
   have fz:=fun o=>res.2.frozen o
   have z0:=res.1.1
   have z1:=res.1.2.1
   have z2:=res.1.2.2.1
   have z3:=res.1.2.2.2
   replace g1:=res.seg (u0:=.int .i64 x0) (u1:=.bool (ng Z)) (u2:=.slice p (ln (am Z)) (ln (am Z))) (u3:=.slice q (ln V) (ln V)) (by simp) (by simp) (by simp) (by simp) g1
   replace g2:=res.seg (u0:=.int .i64 x0) (u1:=.bool (ng Z)) (u2:=.slice p (ln (am Z)) (ln (am Z))) (u3:=.slice q (ln V) (ln V)) (by simp) (by simp) (by simp) (by simp) g2
   replace hB:=below_set4 (u0:=.int .i64 x0) (u1:=.bool (ng Z)) (u2:=.slice p (ln (am Z)) (ln (am Z))) (u3:=.slice q (ln V) (ln V)) hB (show w.heap.size≤w.heap.size+1+1 by omega)
   have hH2:=(⟨(xX2 (w:=w6) (c:=w.heap.size+1+1) (b:=c) (o:=0) (u0:=.int .i64 x0) (u1:=.bool (ng Z)) (u2:=.slice p (ln (am Z)) (ln (am Z))) (u3:=.slice q (ln V) (ln V)) (by omega)).trans hHeld.1,(xX2 (w:=w6) (c:=w.heap.size+1+1) (b:=c) (o:=1) (u0:=.int .i64 x0) (u1:=.bool (ng Z)) (u2:=.slice p (ln (am Z)) (ln (am Z))) (u3:=.slice q (ln V) (ln V)) (by omega)).trans hHeld.2.1,(xX2 (w:=w6) (c:=w.heap.size+1+1) (b:=c) (o:=2) (u0:=.int .i64 x0) (u1:=.bool (ng Z)) (u2:=.slice p (ln (am Z)) (ln (am Z))) (u3:=.slice q (ln V) (ln V)) (by omega)).trans hHeld.2.2.1,(xX2 (w:=w6) (c:=w.heap.size+1+1) (b:=c) (o:=3) (u0:=.int .i64 x0) (u1:=.bool (ng Z)) (u2:=.slice p (ln (am Z)) (ln (am Z))) (u3:=.slice q (ln V) (ln V)) (by omega)).trans hHeld.2.2.2⟩:_∧_∧_∧_)
   have res2:=res.put (u0:=.int .i64 x0) (u1:=.bool (ng Z)) (u2:=.slice p (ln (am Z)) (ln (am Z))) (u3:=.slice q (ln V) (ln V))
   go_simp
   clear z0 z1 z2 z3 fz res
   refine hKK.out _ _ hH2 ?_
   clear hHeld
   intro hHeld
   clear hKK KK
   try simp only [pA]
   clear hH2
   replace res:=res2
   clear res2
   try unfold set4 at g1
   try unfold set4 at g2
   try unfold set4 at res
   try unfold set4 at hB
   try unfold set4 at hHeld
   generalize ((((w6.setCell ⟨w.heap.size+1+1,0,none⟩ (.int .i64 x0)).setCell ⟨w.heap.size+1+1,1,none⟩ (.bool (ng Z))).setCell ⟨w.heap.size+1+1,2,none⟩ (.slice p (ln (am Z)) (ln (am Z)))).setCell ⟨w.heap.size+1+1,3,none⟩ (.slice q (ln V) (ln V)))=w7 at g1 g2 res hB hHeld ⊢
   refine tk 6 (v:=?_) rfl (Or.inl ⟨by rfl,?_⟩) ?_
   rotate_left
   ·intro w9 hSw
    go_simp
    try with_reducible rfl
   simp only [pA]
   refine wpAnyH_done (by kernel_rfl) ?_ _
   obtain ⟨⟨z0,z1,z2,z3⟩,zR⟩:=res
   go_wp2
   refine bodyPost_ret (v:=.tuple #[.agg #[.int .i64 x0,.bool (ng Z),.slice p (ln (am Z)) (ln (am Z)),.slice q (ln V) (ln V)],.bool false]) (by rw [results_ct rfl];go_simp) rfl ?_
   exact ⟨p,q,rfl,hB,g1,g2,f1,f2⟩
structure Sl (w:World) (a:Option Addr) (c:Nat) (L:List Mo):Prop where
 lies:FAt w a L
 len:L.length≤c
 nn:a=none→c=0
theorem Sl.later {w w':World} {a:Option Addr} {c:Nat} {L:List Mo} (h:Sl w a c L) (hb:Below w.heap.size w w'):Sl w' a c L:=⟨h.lies.later hb,h.len,h.nn⟩
theorem Sl.of {w:World} {base:Nat} {e:TypeId} {v:Value} {L:List Mo} (h:w.ownsRow base e 4 v L.length (xZ0 L)):∃ a c,v=.slice a L.length c∧Sl w a c L:=by
 rcases h.2 with ⟨rfl,h0⟩ | ⟨g,cap,cur,rfl,hb,hg,hc,hm,_,_⟩
 ·exact ⟨none,0,by rw [h0],fun hn=>absurd (List.eq_nil_of_length_eq_zero h0) hn,by omega,fun _=>rfl⟩
 ·obtain ⟨a,cap',e,h1,h2,h3⟩:=own_form h
  simp only [Value.slice.injEq] at e
  obtain ⟨rfl,_,rfl⟩:=e
  exact ⟨_,_,rfl,h3,h1,fun h=>by cases h⟩
theorem run_append_form {w:World} (base:Nat) (vo:Value) (R L:List Mo) (a:Option Addr) (ca:Nat) (t ty:TypeId) (ht:Tryz.prog.underlying t=some (.slice 57)) (hown:w.ownsRow base 57 4 vo R.length (xZ0 R)) (hL:Sl w a ca L) (hlen:R.length+L.length≤4194304) (hbase:base≤w.heap.size) :
  ∃ v' w',(Builtin.append_ #[t,t] ty #[vo,.slice a L.length ca]).run Tryz.prog w=.ok v' w'∧w'.ownsRow base 57 4 v' (R ++ L).length (xZ0 (R ++ L))∧w.grownBy w' vo.ownBlock∧(v'.ownBlock=vo.ownBlock∨v'.ownBlock=some w.heap.size):=by
 obtain ⟨i0,hi0,hz0,hz1,hz2⟩:=info_parts info_Mono
 cases a with
 | none =>
  have hc:=hL.nn rfl
  have hl:L=[]:=by
   cases L with
   | nil=>rfl
   | cons p L=>obtain ⟨b,off,e,_⟩:=hL.lies (by simp);cases e
  subst hl hc
  exact ⟨vo,w,run_append_owned_none (P:=Tryz.prog) (w:=w) base t ty 57 i0 4 ht hi0 vo R.length (xZ0 R) hown,by rw [List.append_nil];exact hown,⟨rfl,rfl,rfl,Nat.le_refl _,fun _ _ _=>rfl⟩,Or.inl rfl⟩
 | some ad =>
  have hnews:∀ j u,(xZ0 L)[j]?=some u→w.cell? (ad.add j)=some u:=by
   cases L with
   | nil=>intro j u hu;simp [xZ0] at hu
   | cons p L =>
    obtain ⟨b,off,e,_⟩:=hL.lies (by simp)
    obtain rfl:=Option.some.inj e
    exact hL.lies.cells
  obtain ⟨v',w',hr,h2,h3,_,h5⟩:=run_append_own_at (P:=Tryz.prog) w base t ty 57 i0 _ 4 64 ht hi0 hz0 hz1 hz2 rfl (by omega) vo R.length (xZ0 R) hown ad L.length ca (xZ0 L) (cellsF_length L) hnews (cellsF_one L) (by simp only [maxLen];omega) (by omega) hbase
  exact ⟨v',w',hr,by rw [cellsF_append,List.length_append];exact h2,h3,h5⟩
theorem xJ4 {w:World} {ops:Array Oper} {rest:List Oper} {o:Oper} {act:Act} {Q:Exit→Act→World→Prop} (hgd:o.guard=none) (s x:Operand) (t:TypeId)
  (ho:o.op=.call { callee:=.builtin .append,args:=#[s,x],argTypes:=#[t,t] }) (base:Nat) (vo:Value) (R L:List Mo) (a:Option Addr) (ca:Nat) (ht:Tryz.prog.underlying t=some (.slice 57)) (hs:act.eval s=vo) (hx:act.eval x=.slice a L.length ca)
  (hown:w.ownsRow base 57 4 vo R.length (xZ0 R)) (hL:Sl w a ca L) (hlen:R.length+L.length≤4194304) (hbase:base≤w.heap.size)
  (h:∀ v' w',w'.ownsRow base 57 4 v' (R ++ L).length (xZ0 (R ++ L))→w.grownBy w' vo.ownBlock→(v'.ownBlock=vo.ownBlock∨v'.ownBlock=some w.heap.size)→wpList Tryz.prog ops Q rest (act.put o.dst v') w'):wpList Tryz.prog ops Q (o :: rest) act w:=by
 refine wpList_plain hgd fun K hK=>?_
 obtain ⟨v',w',hr,h2,h3,h5⟩:=run_append_form base vo R L a ca t o.type ht hown hL hlen hbase
 unfold Oper.wp execOp
 simp only [ho,resolve,invoke,builtin,Sem.run_bind,Sem.run_pure,Result.andThen_ok,List.map_toArray,List.map_cons,List.map_nil,hs,hx,hr]
 exact hK _ _ (h v' w' h2 h3 h5)
theorem own_push {w1:World} {base:Nat} {e:TypeId} {v:Value} {R:List Mo} {p:Mo} (h:w1.ownsRow base e 4 v (R.length+1) (xZ0 R ++ cells4 p)):w1.ownsRow base e 4 v (R ++ [p]).length (xZ0 (R ++ [p])):=by
 rw [cellsF_append,List.length_append]
 have e:xZ0 [p]=cells4 p:=List.append_nil _
 rw [e]
 exact h
theorem grw_push {vo:Value} {wB w1:World} {R:List Mo} {p:Mo} (hR:∀ q∈R,Grw vo wB q) (hp:Grw vo wB p) (hg:wB.grownBy w1 vo.ownBlock) {gb j cap:Nat} (hat:vo.ownBlock=some gb∨gb=wB.heap.size):∀ q∈R ++ [p],Grw (.slice (some ⟨gb,0,none⟩) j cap) w1 q:=by
 intro q hq
 rcases List.mem_append.1 hq with hq | hq
 ·exact (hR q hq).grown hg hat
 ·rw [List.mem_singleton] at hq
  subst hq
  exact hp.grown hg hat
theorem grw_all {vo v':Value} {wB w1:World} {R L:List Mo} (hR:∀ q∈R,Grw vo wB q) (hL:∀ q∈L,Grw vo wB q) (hg:wB.grownBy w1 vo.ownBlock) (hat:v'.ownBlock=vo.ownBlock∨v'.ownBlock=some wB.heap.size):∀ q∈R ++ L,Grw v' w1 q:=by
 intro q hq
 have h:Grw vo wB q:=by
  rcases List.mem_append.1 hq with hq | hq
  ·exact hR q hq
  ·exact hL q hq
 refine ⟨h.ok.grown hg h.off,h.low,fun b hb=>?_⟩
 rcases hat with h1 | h1
 ·rw [h1] at hb;exact h.off b hb
 ·rw [h1] at hb;obtain rfl:=Option.some.inj hb;exact h.ok.off (Nat.le_refl _)
structure EntS (w:World) (p:Mo):Prop where
 ent:Ent w p
 ln1:p.2.n≤1099511627776
 ln2:p.2.m≤1099511627776
theorem EntS.later {w w':World} {p:Mo} (h:EntS w p) (hb:Below w.heap.size w w'):EntS w' p:=⟨h.ent.later hb,h.ln1,h.ln2⟩
def MInv (w:World) (T:Fo) (K:Nat) (va vb vo:Value) (wr:World):Prop :=
 ∃ (a:Option Addr) (ca:Nat) (L:List Mo) (b:Option Addr) (cb:Nat) (M R:List Mo),va=.slice a L.length ca∧vb=.slice b M.length cb∧Sl w a ca L∧Sl w b cb M∧(∀ p∈L,EntS w p)∧(∀ p∈M,EntS w p) ∧
  wr.ownsRow w.heap.size 57 4 vo R.length (xZ0 R)∧Below w.heap.size w wr∧(∀ p∈R,Grw vo wr p)∧fo R ++ mrg (fo L) (fo M)=T∧R.length+L.length+M.length≤K
def slen:Value→Nat
 | .slice _ n _=>n
 | _=>0
def FAns (w:World) (T:Fo) (e:Ending) (w':World):Prop :=
 ∃ (a:Option Addr) (c:Nat) (R:List Mo),e=.returned (.slice a R.length c)∧Below w.heap.size w w'∧Sl w' a c R∧(∀ p∈R,Ent w' p)∧fo R=T
def FNew (w:World) (B:Nat) (T:Fo) (e:Ending) (w':World):Prop :=
 ∃ (a:Option Addr) (c:Nat) (R:List Mo),e=.returned (.slice a R.length c)∧Below w.heap.size w w'∧Sl w' a c R∧(∀ p∈R,Ent w' p)∧fo R=T∧∀ ad,a=some ad→B≤ad.block∧Row w' ad.block
theorem FNew.ans {w:World} {B:Nat} {T:Fo} {e:Ending} {w':World} (h:FNew w B T e w'):FAns w T e w':=by
 obtain ⟨a,c,R,h1,h2,h3,h4,h5,_⟩:=h
 exact ⟨a,c,R,h1,h2,h3,h4,h5⟩
theorem own_new {w:World} {base:Nat} {e:TypeId} {size n m:Nat} {xs:List Value} {a:Option Addr} {c:Nat} (h:w.ownsRow base e size (.slice a m c) n xs):∀ ad,a=some ad→base≤ad.block∧Row w ad.block:=fun ad e=>by
 subst e
 refine ⟨(h.lt ad.block rfl).1,?_⟩
 rcases h.2 with ⟨h0,_⟩ | ⟨g,cap,cur,hv,hb,hg,_⟩
 ·cases h0
 ·simp only [Value.slice.injEq,Option.some.injEq] at hv
  obtain ⟨rfl,_⟩:=hv
  exact ⟨cur,_,hg⟩
theorem mrg_lt {x y:Int} {r t:Rat} {l m:Fo} (h:x < y):mrg ((x,r) :: l) ((y,t) :: m)=(x,r) :: mrg l ((y,t) :: m):=by rw [mrg];exact if_pos h
theorem mrg_gt {x y:Int} {r t:Rat} {l m:Fo} (h:y < x):mrg ((x,r) :: l) ((y,t) :: m)=(y,t) :: mrg ((x,r) :: l) m:=by
 rw [mrg]
 have h1:¬ x < y:=by omega
 rw [if_neg h1]
 exact if_pos h
theorem mrg_eq {x y:Int} {r t:Rat} {l m:Fo} (h:x=y):mrg ((x,r) :: l) ((y,t) :: m)=if r+t=0 then mrg l m else (x,r+t) :: mrg l m:=by
 subst h
 rw [mrg]
 have h1:¬ x < x:=by omega
 rw [if_neg h1,if_neg h1]
theorem mrg_nil_right (l:Fo):mrg l []=l:=by cases l <;> rw [mrg]
theorem mrg_nil_left (l:Fo):mrg [] l=l:=by rw [mrg]
end Go.Proofs.YtgfmaejhdbmkoaaGreat
