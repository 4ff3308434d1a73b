import Derived.Test.YtgfmaejhdbmkoaaGreatWI4
import Derived.Test.YtgfmaejhdbmkoaaGreatWQ0
set_option linter.unusedSimpArgs false
namespace Go.Proofs.YtgfmaejhdbmkoaaGreat
open Go.RowKit
set_option linter.unusedVariables false
theorem xJ2 {w:World} {b c o:Nat} {u0 u1 u2:Value} (hne:c≠b):(((w.setCell ⟨c,0,none⟩ u0).setCell ⟨c,1,none⟩ u1).setCell ⟨c,2,none⟩ u2).cell? ⟨b,o,none⟩=w.cell? ⟨b,o,none⟩:=by
 rw [World.cell?_setCell_far _ _ _ _ (by exact hne),World.cell?_setCell_far _ _ _ _ (by exact hne),World.cell?_setCell_far _ _ _ _ (by exact hne)]
theorem set3_same {w:World} {c:Nat} {u0 u1 u2 z0 z1 z2:Value} (h0:w.cell? ⟨c,0,none⟩=some z0) (h1:w.cell? ⟨c,1,none⟩=some z1) (h2:w.cell? ⟨c,2,none⟩=some z2):(((w.setCell ⟨c,0,none⟩ u0).setCell ⟨c,1,none⟩ u1).setCell ⟨c,2,none⟩ u2).cell? ⟨c,0,none⟩=some u0∧(((w.setCell ⟨c,0,none⟩ u0).setCell ⟨c,1,none⟩ u1).setCell ⟨c,2,none⟩ u2).cell? ⟨c,1,none⟩=some u1∧(((w.setCell ⟨c,0,none⟩ u0).setCell ⟨c,1,none⟩ u1).setCell ⟨c,2,none⟩ u2).cell? ⟨c,2,none⟩=some u2:=by
 refine ⟨?_,?_,?_⟩
 ·rw [World.cell?_setCell_other _ _ _ _ (fun e=>by simp at e),World.cell?_setCell_other _ _ _ _ (fun e=>by simp at e)];exact World.cell?_setCell_same (u:=z0) _ _ _ (by exact h0)
 ·rw [World.cell?_setCell_other _ _ _ _ (fun e=>by simp at e)];exact World.cell?_setCell_same (u:=z1) _ _ _ (by rw [World.cell?_setCell_other _ _ _ _ (fun e=>by simp at e)];exact h1)
 ·exact World.cell?_setCell_same (u:=z2) _ _ _ (by rw [World.cell?_setCell_other _ _ _ _ (fun e=>by simp at e),World.cell?_setCell_other _ _ _ _ (fun e=>by simp at e)];exact h2)
theorem xX2 {w:World} {b c o:Nat} {u0 u1 u2 u3:Value} (hne:c≠b):((((w.setCell ⟨c,0,none⟩ u0).setCell ⟨c,1,none⟩ u1).setCell ⟨c,2,none⟩ u2).setCell ⟨c,3,none⟩ u3).cell? ⟨b,o,none⟩=w.cell? ⟨b,o,none⟩:=by
 rw [World.cell?_setCell_far _ _ _ _ (by exact hne),World.cell?_setCell_far _ _ _ _ (by exact hne),World.cell?_setCell_far _ _ _ _ (by exact hne),World.cell?_setCell_far _ _ _ _ (by exact hne)]
theorem set4_same {w:World} {c:Nat} {u0 u1 u2 u3 z0 z1 z2 z3:Value} (h0:w.cell? ⟨c,0,none⟩=some z0) (h1:w.cell? ⟨c,1,none⟩=some z1) (h2:w.cell? ⟨c,2,none⟩=some z2) (h3:w.cell? ⟨c,3,none⟩=some z3):((((w.setCell ⟨c,0,none⟩ u0).setCell ⟨c,1,none⟩ u1).setCell ⟨c,2,none⟩ u2).setCell ⟨c,3,none⟩ u3).cell? ⟨c,0,none⟩=some u0∧((((w.setCell ⟨c,0,none⟩ u0).setCell ⟨c,1,none⟩ u1).setCell ⟨c,2,none⟩ u2).setCell ⟨c,3,none⟩ u3).cell? ⟨c,1,none⟩=some u1∧((((w.setCell ⟨c,0,none⟩ u0).setCell ⟨c,1,none⟩ u1).setCell ⟨c,2,none⟩ u2).setCell ⟨c,3,none⟩ u3).cell? ⟨c,2,none⟩=some u2∧((((w.setCell ⟨c,0,none⟩ u0).setCell ⟨c,1,none⟩ u1).setCell ⟨c,2,none⟩ u2).setCell ⟨c,3,none⟩ u3).cell? ⟨c,3,none⟩=some u3:=by
 refine ⟨?_,?_,?_,?_⟩
 ·rw [World.cell?_setCell_other _ _ _ _ (fun e=>by simp at e),World.cell?_setCell_other _ _ _ _ (fun e=>by simp at e),World.cell?_setCell_other _ _ _ _ (fun e=>by simp at e)];exact World.cell?_setCell_same (u:=z0) _ _ _ (by exact h0)
 ·rw [World.cell?_setCell_other _ _ _ _ (fun e=>by simp at e),World.cell?_setCell_other _ _ _ _ (fun e=>by simp at e)];exact World.cell?_setCell_same (u:=z1) _ _ _ (by rw [World.cell?_setCell_other _ _ _ _ (fun e=>by simp at e)];exact h1)
 ·rw [World.cell?_setCell_other _ _ _ _ (fun e=>by simp at e)];exact World.cell?_setCell_same (u:=z2) _ _ _ (by rw [World.cell?_setCell_other _ _ _ _ (fun e=>by simp at e),World.cell?_setCell_other _ _ _ _ (fun e=>by simp at e)];exact h2)
 ·exact World.cell?_setCell_same (u:=z3) _ _ _ (by rw [World.cell?_setCell_other _ _ _ _ (fun e=>by simp at e),World.cell?_setCell_other _ _ _ _ (fun e=>by simp at e),World.cell?_setCell_other _ _ _ _ (fun e=>by simp at e)];exact h3)
theorem read_is (s:Bool) (ao:Option Addr) (n cap X:Nat) (ao2:Option Addr) (m cap2 Y L:Nat) (w:World) (hc:n≤cap) (hm:n≤L) (hS:Seg w ao X n) (hc2:m≤cap2) (hm2:m≤L) (hS2:Seg w ao2 Y m) (h1:1≤L) (hL:L≤70368744177664) :
  Calls Tryz.prog 76 #[.agg #[.bool s,.slice ao n cap,.slice ao2 m cap2]] w fun e w'=>∃ s' p n' c' X' q m' c2',e=.returned (.agg #[.bool s',.slice p n' c',.bool false,.slice q m' c2'])∧n'≤c'∧n'≤L∧m'≤c2'∧m'≤L∧Seg w' p X' n'∧Seg w' q (rd Y) m'∧sg s' X'=rn s X Y∧Below w.heap.size w w':=by
 by_cases hY:Y=0
 ·subst hY
  refine (read_z s ao n cap ao2 m cap2 w hc2 (by omega) hS2).mono ?_
  rintro e w' ⟨p,q,rfl,hp,hq⟩
  have h0:ln (am 0)=0:=xX7
  have h2:ln (am 1)=1:=by decide +kernel
  refine ⟨_,p,_,_,_,q,_,_,rfl,Nat.le_refl _,by rw [h0];omega,Nat.le_refl _,by rw [h2];omega,hp.seg,hq.seg,rfl,hp.below⟩
 ·refine (read_nz s ao n cap ao2 m cap2 Y w hc2 (by omega) hS2 hY).mono ?_
  rintro e w' ⟨rfl,hb⟩
  exact ⟨s,ao,n,cap,X,ao2,m,cap2,rfl,hc,hm,hc2,hm2,hS.later hb,by rw [rd_of hY];exact hS2.later hb,(rn_of hY).symm,hb⟩
set_option maxHeartbeats 2000000 in
set_option maxRecDepth 100000 in
theorem lowest_pos (s:Bool) (ao:Option Addr) (n cap X:Nat) (ao2:Option Addr) (m cap2 Y P Q:Nat) (Z:Int) (w:World) (hc:n≤cap) (hm:n≤70368744177660) (hS:Seg w ao X n) (hc2:m≤cap2) (hm2:m≤70368744177660) (hS2:Seg w ao2 Y m)
  (hY:Y≠0) (hP:X=P*Nat.gcd X Y) (hQ:Y=Q*Nat.gcd X Y) (hZ:sg s P=Z) :
  Calls Tryz.prog 75 #[.agg #[.bool s,.slice ao n cap,.bool false,.slice ao2 m cap2]] w fun e w'=>∃ p q,e=.returned (.agg #[.bool (ng Z),.slice p (ln (am Z)) (ln (am Z)),.slice q (ln Q) (ln Q)])∧New w w' p (am Z) (ln (am Z))∧New w w' q Q (ln Q):=by
 obtain ⟨G,hG⟩:∃ G,Nat.gcd X Y=G:=⟨_,rfl⟩
 have hG0:0 < G:=by rw [←hG];exact Nat.gcd_pos_of_pos_right _ (by omega)
 have hlG:ln G≤70368744177660:=by
  have:G≤Y:=by rw [←hG];exact Nat.gcd_le_right _ (by omega)
  have:=xQ4 (Nat.lt_of_le_of_lt this hS2.1);omega
 rw [hG] at hP hQ
 obtain ⟨V,hV⟩:∃ V:Int,((Q:Nat):Int)=V:=⟨_,rfl⟩
 have hQV:Q=am V:=by rw [←hV];exact (am_nat Q).symm
 have hng:ng V=false:=by rw [←hV];exact ng_nat Q
 obtain ⟨O,hO⟩:∃ O:Int,(0:Int)=O:=⟨_,rfl⟩
 have HG:=xQ1 (fun w' k1 k2=>wGcd_is s ao n cap X false ao2 m cap2 Y G w' hc (by omega) k1 hc2 (by omega) k2 hG)
 have H1:=xQ1 (fun w' ag k1 k2=>wQuo_is s ao n cap X false ag (ln G) (ln G) G P 0 Z O w' hc (by omega) k1 (Nat.le_refl _) (by omega) k2 (by omega) hG0 (by rw [←hZ];cases s <;> rfl) ((sg_zero s).trans hO))
 have H2':=fun w' ag k1 k2=>wQuo_is false ao2 m cap2 Y false ag (ln G) (ln G) G Q 0 V O w' hc2 (by omega) k1 (Nat.le_refl _) (by omega) k2 (by omega) hG0 (by rw [←hV];rfl) ((sg_zero false).trans hO)
 rw [hng,←hQV] at H2'
 have H2:=xQ1 H2'
 clear hP hQ hG hG0 hZ hQV hV hY hO H2' hng
 go_enter Tryz.func75,Tryz.ntmps75
 go_wp2_with fail
 obtain ⟨W,hW⟩:∃ W,((w.alloc (.cells #[.bool s,.slice ao n cap,.bool false,.slice ao2 m cap2] 111)).alloc (.cells #[.bool false,.slice none 0 0,.slice none 0 0] 55))=W:=⟨_,rfl⟩
 have q00:W.cell? ⟨w.heap.size,0,none⟩=some (.bool s):=by subst hW;go_simp
 have q01:W.cell? ⟨w.heap.size,1,none⟩=some (.slice ao n cap):=by subst hW;go_simp
 have q02:W.cell? ⟨w.heap.size,2,none⟩=some (.bool false):=by subst hW;go_simp
 have q03:W.cell? ⟨w.heap.size,3,none⟩=some (.slice ao2 m cap2):=by subst hW;go_simp
 have r00:W.cell? ⟨w.heap.size+1,0,none⟩=some (.bool false):=by subst hW;go_simp
 have r01:W.cell? ⟨w.heap.size+1,1,none⟩=some (.slice none 0 0):=by subst hW;go_simp
 have r02:W.cell? ⟨w.heap.size+1,2,none⟩=some (.slice none 0 0):=by subst hW;go_simp
 have hB:Below w.heap.size w W:=by subst hW;exact (((Below.refl _ _).alloc (by (try simp only [World.size_alloc]);omega) _).alloc (by (try simp only [World.size_alloc]);omega) _)
 have hR0:Row W (w.heap.size+1):=by
  have:=xQ9 ((w.alloc (.cells #[.bool s,.slice ao n cap,.bool false,.slice ao2 m cap2] 111))) #[.bool false,.slice none 0 0,.slice none 0 0] 55
  try simp only [World.size_alloc] at this
  subst hW;exact this
 have hz:W.heap.size=w.heap.size+1+1:=by subst hW;simp only [World.size_alloc]
 rw [hW]
 clear hW
 have hBW:Below W.heap.size W W:=Below.refl _ _
 refine (HG.out _ (sb hS hB hBW) (sb hS2 hB hBW)).mono ?_
 rintro e w1 ⟨a1,rfl,hg⟩
 have b1:=hg.below
 replace hg:=hg.back hBW
 replace hBW:=hBW.trans (b1.mono hBW.size)
 replace q00:=xQ0 b1 q00
 replace q01:=xQ0 b1 q01
 replace q02:=xQ0 b1 q02
 replace q03:=xQ0 b1 q03
 replace r00:=xQ0 b1 r00
 replace r01:=xQ0 b1 r01
 replace r02:=xQ0 b1 r02
 replace hR0:=xQ3 b1 hR0
 have hsz1:=hBW.size
 have hlt1hR0:=hR0.lt
 have l100:((w1.alloc (.cells #[.bool false,.slice a1 (ln G) (ln G)] 53))).cell? ⟨w1.heap.size,0,none⟩=some (.bool false):=by go_simp
 have l101:((w1.alloc (.cells #[.bool false,.slice a1 (ln G) (ln G)] 53))).cell? ⟨w1.heap.size,1,none⟩=some (.slice a1 (ln G) (ln G)):=by go_simp
 have cb1:Below w1.heap.size w1 ((w1.alloc (.cells #[.bool false,.slice a1 (ln G) (ln G)] 53))):=((Below.refl _ _).alloc (by (try simp only [World.size_alloc]);omega) _)
 replace hBW:=hBW.trans (cb1.mono hBW.size)
 replace q00:=xQ0 cb1 q00
 replace q01:=xQ0 cb1 q01
 replace q02:=xQ0 cb1 q02
 replace q03:=xQ0 cb1 q03
 replace r00:=xQ0 cb1 r00
 replace r01:=xQ0 cb1 r01
 replace r02:=xQ0 cb1 r02
 replace hR0:=xQ3 cb1 hR0
 replace hg:=hg.later cb1
 have hL10:Row ((w1.alloc (.cells #[.bool false,.slice a1 (ln G) (ln G)] 53))) (w1.heap.size):=by
  have:=xQ9 (w1) #[.bool false,.slice a1 (ln G) (ln G)] 53
  try simp only [World.size_alloc] at this
  exact this
 go_wp2_with fail
 generalize (w1.alloc (.cells #[.bool false,.slice a1 (ln G) (ln G)] 53))=w1x at q00 q01 q02 q03 r00 r01 r02 l100 l101 hR0 hL10 hg hBW cb1 ⊢
 clear cb1
 refine (H1.out _ a1 (sb hS hB hBW) hg.seg).mono ?_
 rintro e w2 ⟨a2,c2,rfl,hq2,hr2⟩
 have b2:=hq2.below
 replace hq2:=hq2.back hBW
 replace hr2:=hr2.back hBW
 replace hBW:=hBW.trans (b2.mono hBW.size)
 replace q00:=xQ0 b2 q00
 replace q01:=xQ0 b2 q01
 replace q02:=xQ0 b2 q02
 replace q03:=xQ0 b2 q03
 replace r00:=xQ0 b2 r00
 replace r01:=xQ0 b2 r01
 replace r02:=xQ0 b2 r02
 replace l100:=xQ0 b2 l100
 replace l101:=xQ0 b2 l101
 replace hR0:=xQ3 b2 hR0
 replace hL10:=xQ3 b2 hL10
 replace hg:=hg.later b2
 have hsz2:=hBW.size
 have hlt2hR0:=hR0.lt
 have hlt2hL10:=hL10.lt
 have l200:(((w2.alloc (.cells #[.bool (ng Z),.slice a2 (ln (am Z)) (ln (am Z))] 53)).alloc (.cells #[.bool (ng O),.slice c2 (ln (am O)) (ln (am O))] 53))).cell? ⟨w2.heap.size,0,none⟩=some (.bool (ng Z)):=by go_simp
 have l201:(((w2.alloc (.cells #[.bool (ng Z),.slice a2 (ln (am Z)) (ln (am Z))] 53)).alloc (.cells #[.bool (ng O),.slice c2 (ln (am O)) (ln (am O))] 53))).cell? ⟨w2.heap.size,1,none⟩=some (.slice a2 (ln (am Z)) (ln (am Z))):=by go_simp
 have l210:(((w2.alloc (.cells #[.bool (ng Z),.slice a2 (ln (am Z)) (ln (am Z))] 53)).alloc (.cells #[.bool (ng O),.slice c2 (ln (am O)) (ln (am O))] 53))).cell? ⟨w2.heap.size+1,0,none⟩=some (.bool (ng O)):=by go_simp
 have l211:(((w2.alloc (.cells #[.bool (ng Z),.slice a2 (ln (am Z)) (ln (am Z))] 53)).alloc (.cells #[.bool (ng O),.slice c2 (ln (am O)) (ln (am O))] 53))).cell? ⟨w2.heap.size+1,1,none⟩=some (.slice c2 (ln (am O)) (ln (am O))):=by go_simp
 have cb2:Below w2.heap.size w2 (((w2.alloc (.cells #[.bool (ng Z),.slice a2 (ln (am Z)) (ln (am Z))] 53)).alloc (.cells #[.bool (ng O),.slice c2 (ln (am O)) (ln (am O))] 53))):=(((Below.refl _ _).alloc (by (try simp only [World.size_alloc]);omega) _).alloc (by (try simp only [World.size_alloc]);omega) _)
 replace hBW:=hBW.trans (cb2.mono hBW.size)
 replace q00:=xQ0 cb2 q00
 replace q01:=xQ0 cb2 q01
 replace q02:=xQ0 cb2 q02
 replace q03:=xQ0 cb2 q03
 replace r00:=xQ0 cb2 r00
 replace r01:=xQ0 cb2 r01
 replace r02:=xQ0 cb2 r02
 replace l100:=xQ0 cb2 l100
 replace l101:=xQ0 cb2 l101
 replace hR0:=xQ3 cb2 hR0
 replace hL10:=xQ3 cb2 hL10
 replace hg:=hg.later cb2
 replace hq2:=hq2.later cb2
 replace hr2:=hr2.later cb2
 have hL20:Row (((w2.alloc (.cells #[.bool (ng Z),.slice a2 (ln (am Z)) (ln (am Z))] 53)).alloc (.cells #[.bool (ng O),.slice c2 (ln (am O)) (ln (am O))] 53))) (w2.heap.size):=by
  have:=xQ9 (w2) #[.bool (ng Z),.slice a2 (ln (am Z)) (ln (am Z))] 53
  try simp only [World.size_alloc] at this
  exact (this.alloc _)
 have hL21:Row (((w2.alloc (.cells #[.bool (ng Z),.slice a2 (ln (am Z)) (ln (am Z))] 53)).alloc (.cells #[.bool (ng O),.slice c2 (ln (am O)) (ln (am O))] 53))) (w2.heap.size+1):=by
  have:=xQ9 ((w2.alloc (.cells #[.bool (ng Z),.slice a2 (ln (am Z)) (ln (am Z))] 53))) #[.bool (ng O),.slice c2 (ln (am O)) (ln (am O))] 53
  try simp only [World.size_alloc] at this
  exact this
 go_wp2_with fail
 generalize ((w2.alloc (.cells #[.bool (ng Z),.slice a2 (ln (am Z)) (ln (am Z))] 53)).alloc (.cells #[.bool (ng O),.slice c2 (ln (am O)) (ln (am O))] 53))=w2x at q00 q01 q02 q03 r00 r01 r02 l100 l101 l200 l201 l210 l211 hR0 hL10 hL20 hL21 hg hq2 hr2 hBW cb2 ⊢
 clear cb2
 refine (H2.out _ a1 (sb hS2 hB hBW) hg.seg).mono ?_
 rintro e w3 ⟨a3,c3,rfl,hq3,hr3⟩
 have b3:=hq3.below
 replace hq3:=hq3.back hBW
 replace hr3:=hr3.back hBW
 replace hBW:=hBW.trans (b3.mono hBW.size)
 replace q00:=xQ0 b3 q00
 replace q01:=xQ0 b3 q01
 replace q02:=xQ0 b3 q02
 replace q03:=xQ0 b3 q03
 replace r00:=xQ0 b3 r00
 replace r01:=xQ0 b3 r01
 replace r02:=xQ0 b3 r02
 replace l100:=xQ0 b3 l100
 replace l101:=xQ0 b3 l101
 replace l200:=xQ0 b3 l200
 replace l201:=xQ0 b3 l201
 replace l210:=xQ0 b3 l210
 replace l211:=xQ0 b3 l211
 replace hR0:=xQ3 b3 hR0
 replace hL10:=xQ3 b3 hL10
 replace hL20:=xQ3 b3 hL20
 replace hL21:=xQ3 b3 hL21
 replace hg:=hg.later b3
 replace hq2:=hq2.later b3
 replace hr2:=hr2.later b3
 have hsz3:=hBW.size
 have hlt3hR0:=hR0.lt
 have hlt3hL10:=hL10.lt
 have hlt3hL20:=hL20.lt
 have hlt3hL21:=hL21.lt
 have l300:(((w3.alloc (.cells #[.bool false,.slice a3 (ln Q) (ln Q)] 53)).alloc (.cells #[.bool (ng O),.slice c3 (ln (am O)) (ln (am O))] 53))).cell? ⟨w3.heap.size,0,none⟩=some (.bool false):=by go_simp
 have l301:(((w3.alloc (.cells #[.bool false,.slice a3 (ln Q) (ln Q)] 53)).alloc (.cells #[.bool (ng O),.slice c3 (ln (am O)) (ln (am O))] 53))).cell? ⟨w3.heap.size,1,none⟩=some (.slice a3 (ln Q) (ln Q)):=by go_simp
 have l310:(((w3.alloc (.cells #[.bool false,.slice a3 (ln Q) (ln Q)] 53)).alloc (.cells #[.bool (ng O),.slice c3 (ln (am O)) (ln (am O))] 53))).cell? ⟨w3.heap.size+1,0,none⟩=some (.bool (ng O)):=by go_simp
 have l311:(((w3.alloc (.cells #[.bool false,.slice a3 (ln Q) (ln Q)] 53)).alloc (.cells #[.bool (ng O),.slice c3 (ln (am O)) (ln (am O))] 53))).cell? ⟨w3.heap.size+1,1,none⟩=some (.slice c3 (ln (am O)) (ln (am O))):=by go_simp
 have cb3:Below w3.heap.size w3 (((w3.alloc (.cells #[.bool false,.slice a3 (ln Q) (ln Q)] 53)).alloc (.cells #[.bool (ng O),.slice c3 (ln (am O)) (ln (am O))] 53))):=(((Below.refl _ _).alloc (by (try simp only [World.size_alloc]);omega) _).alloc (by (try simp only [World.size_alloc]);omega) _)
 replace hBW:=hBW.trans (cb3.mono hBW.size)
 replace q00:=xQ0 cb3 q00
 replace q01:=xQ0 cb3 q01
 replace q02:=xQ0 cb3 q02
 replace q03:=xQ0 cb3 q03
 replace r00:=xQ0 cb3 r00
 replace r01:=xQ0 cb3 r01
 replace r02:=xQ0 cb3 r02
 replace l100:=xQ0 cb3 l100
 replace l101:=xQ0 cb3 l101
 replace l200:=xQ0 cb3 l200
 replace l201:=xQ0 cb3 l201
 replace l210:=xQ0 cb3 l210
 replace l211:=xQ0 cb3 l211
 replace hR0:=xQ3 cb3 hR0
 replace hL10:=xQ3 cb3 hL10
 replace hL20:=xQ3 cb3 hL20
 replace hL21:=xQ3 cb3 hL21
 replace hg:=hg.later cb3
 replace hq2:=hq2.later cb3
 replace hr2:=hr2.later cb3
 replace hq3:=hq3.later cb3
 replace hr3:=hr3.later cb3
 have hL30:Row (((w3.alloc (.cells #[.bool false,.slice a3 (ln Q) (ln Q)] 53)).alloc (.cells #[.bool (ng O),.slice c3 (ln (am O)) (ln (am O))] 53))) (w3.heap.size):=by
  have:=xQ9 (w3) #[.bool false,.slice a3 (ln Q) (ln Q)] 53
  try simp only [World.size_alloc] at this
  exact (this.alloc _)
 have hL31:Row (((w3.alloc (.cells #[.bool false,.slice a3 (ln Q) (ln Q)] 53)).alloc (.cells #[.bool (ng O),.slice c3 (ln (am O)) (ln (am O))] 53))) (w3.heap.size+1):=by
  have:=xQ9 ((w3.alloc (.cells #[.bool false,.slice a3 (ln Q) (ln Q)] 53))) #[.bool (ng O),.slice c3 (ln (am O)) (ln (am O))] 53
  try simp only [World.size_alloc] at this
  exact this
 clear cb3
 have fz0:=fun o=>hR0.frozen o
 go_wp2
 all_goals refine bodyPost_ret (v:=.agg #[.bool (ng Z),.slice a2 (ln (am Z)) (ln (am Z)),.slice a3 (ln Q) (ln Q)]) (by rw [xQ5 rfl];go_simp) rfl ?_
 all_goals exact ⟨a2,a3,rfl,hq2.mid hB (((((Mid.refl _ _ _).set _ _ (by omega) (by omega) _).set _ _ (by omega) (by omega) _).set _ _ (by omega) (by omega) _)),hq3.mid hB (((((Mid.refl _ _ _).set _ _ (by omega) (by omega) _).set _ _ (by omega) (by omega) _).set _ _ (by omega) (by omega) _))⟩
end Go.Proofs.YtgfmaejhdbmkoaaGreat
