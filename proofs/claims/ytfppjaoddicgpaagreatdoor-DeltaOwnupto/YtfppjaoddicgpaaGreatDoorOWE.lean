import Derived.Test.YtfppjaoddicgpaaGreatDoorOWD
import Derived.Test.YtfppjaoddicgpaaGreatDoorWQC
set_option linter.unusedSimpArgs false
namespace Go.Proofs.YtfppjaoddicgpaaGreatDoor
open Go.RowKit
set_option linter.unusedVariables false
set_option maxHeartbeats 2000000 in
set_option maxRecDepth 100000 in
theorem lowestn_ap (s:Bool) (ao:Option Addr) (n cap X:Nat) (ao2:Option Addr) (m cap2 Y P Q:Nat) (Z Z2:Int) (w:World) (hc:n≤cap) (hm:n≤70368744177660) (hS:Seg w ao X n) (hc2:m≤cap2) (hm2:m≤70368744177660) (hS2:Seg w ao2 Y m)
  (hY:Y≠0) (hP:X=P*Nat.gcd X Y) (hQ:Y=Q*Nat.gcd X Y) (hZ:sg s P=Z) (hZ2:-Z=Z2) :
  Calls Tryz.prog 75 #[.agg #[.bool s,.slice ao n cap,.bool true,.slice ao2 m cap2]] w fun e w'=>∃ p q,e=.returned (.agg #[.bool (ng Z2),.slice p (ln (am Z2)) (ln (am Z2)),.slice q (ln Q) (ln Q)])∧New w w' p (am Z2) (ln (am Z2))∧New w w' q Q (ln Q)∧Ap p (ln (am Z2)) q (ln Q):=by
 obtain ⟨G,hG⟩:∃ G,Nat.gcd X Y=G:=⟨_,rfl⟩
 have hG0:0 < G:=by rw [←hG];exact Nat.gcd_pos_of_pos_right _ (by omega)
 have hlG:ln G≤70368744177660:=by
  have:G≤Y:=by rw [←hG];exact Nat.gcd_le_right _ (by omega)
  have:=ln_le_of_lt (Nat.lt_of_le_of_lt this hS2.1);omega
 rw [hG] at hP hQ
 have hlP:ln (am Z)≤70368744177660:=by
  have h1:P≤X:=by rw [hP];exact Nat.le_mul_of_pos_right _ hG0
  rw [←hZ,am_sg]
  have:=ln_le_of_lt (Nat.lt_of_le_of_lt h1 hS.1);omega
 have hQ0:0 < Q:=Nat.pos_of_ne_zero fun e=>hY (by rw [hQ,e,Nat.zero_mul])
 obtain ⟨V,hV⟩:∃ V:Int,-((Q:Nat):Int)=V:=⟨_,rfl⟩
 have hQV:Q=am V:=by rw [←hV,am_neg];exact (am_nat Q).symm
 have hng:ng V=true:=by rw [ng_true,←hV];omega
 obtain ⟨O,hO⟩:∃ O:Int,(0:Int)=O:=⟨_,rfl⟩
 have HG:=hide' (fun w' k1 k2=>wGcd_is s ao n cap X true ao2 m cap2 Y G w' hc (by omega) k1 hc2 (by omega) k2 hG)
 have H1:=hide' (fun w' ag k1 k2=>wQuo_is s ao n cap X false ag (ln G) (ln G) G P 0 Z O w' hc (by omega) k1 (Nat.le_refl _) (by omega) k2 (by omega) hG0 (by rw [←hZ];cases s <;> rfl) ((sg_zero s).trans hO))
 have H2':=fun w' ag k1 k2=>wQuo_is true ao2 m cap2 Y false ag (ln G) (ln G) G Q 0 V O w' hc2 (by omega) k1 (Nat.le_refl _) (by omega) k2 (by omega) hG0 (by rw [←hV];rfl) ((sg_zero true).trans hO)
 rw [hng,←hQV] at H2'
 have H2:=hide' H2'
 have H3:=hide' (fun w' p k=>wNeg_is (ng Z) p (ln (am Z)) (ln (am Z)) (am Z) Z2 w' (Nat.le_refl _) (by omega) k (by rw [sg_na];exact hZ2))
 clear hP hQ hG hG0 hZ hQV hV hY hO H2' hng hQ0 hZ2
 go_enter Tryz.func75,Tryz.ntmps75
 go_wp2_with fail
 obtain ⟨W,hW⟩:∃ W,((w.alloc (.cells #[.bool s,.slice ao n cap,.bool true,.slice ao2 m cap2] 85)).alloc (.cells #[.bool false,.slice none 0 0,.slice none 0 0] 27))=W:=⟨_,rfl⟩
 have q00:W.cell? ⟨w.heap.size,0,none⟩=some (.bool s):=by subst hW;go_simp
 have q01:W.cell? ⟨w.heap.size,1,none⟩=some (.slice ao n cap):=by subst hW;go_simp
 have q02:W.cell? ⟨w.heap.size,2,none⟩=some (.bool true):=by subst hW;go_simp
 have q03:W.cell? ⟨w.heap.size,3,none⟩=some (.slice ao2 m cap2):=by subst hW;go_simp
 have r00:W.cell? ⟨w.heap.size+1,0,none⟩=some (.bool false):=by subst hW;go_simp
 have r01:W.cell? ⟨w.heap.size+1,1,none⟩=some (.slice none 0 0):=by subst hW;go_simp
 have r02:W.cell? ⟨w.heap.size+1,2,none⟩=some (.slice none 0 0):=by subst hW;go_simp
 have hB:Below w.heap.size w W:=by subst hW;exact (((Below.refl _ _).alloc (by (try simp only [World.size_alloc]);omega) _).alloc (by (try simp only [World.size_alloc]);omega) _)
 have hR0:Row W (w.heap.size+1):=by
  have:=row_new ((w.alloc (.cells #[.bool s,.slice ao n cap,.bool true,.slice ao2 m cap2] 85))) #[.bool false,.slice none 0 0,.slice none 0 0] 27
  try simp only [World.size_alloc] at this
  subst hW;exact this
 have hz:W.heap.size=w.heap.size+1+1:=by subst hW;simp only [World.size_alloc]
 rw [hW]
 clear hW
 have hBW:Below W.heap.size W W:=Below.refl _ _
 refine (HG.out _ (sb hS hB hBW) (sb hS2 hB hBW)).mono ?_
 rintro e w1 ⟨a1,rfl,hg⟩
 have b1:=hg.below
 replace hg:=hg.back hBW
 replace hBW:=hBW.trans (b1.mono hBW.size)
 replace q00:=below_cell b1 q00
 replace q01:=below_cell b1 q01
 replace q02:=below_cell b1 q02
 replace q03:=below_cell b1 q03
 replace r00:=below_cell b1 r00
 replace r01:=below_cell b1 r01
 replace r02:=below_cell b1 r02
 replace hR0:=below_row b1 hR0
 have hsz1:=hBW.size
 have hlt1hR0:=hR0.lt
 have l100:((w1.alloc (.cells #[.bool false,.slice a1 (ln G) (ln G)] 25))).cell? ⟨w1.heap.size,0,none⟩=some (.bool false):=by go_simp
 have l101:((w1.alloc (.cells #[.bool false,.slice a1 (ln G) (ln G)] 25))).cell? ⟨w1.heap.size,1,none⟩=some (.slice a1 (ln G) (ln G)):=by go_simp
 have cb1:Below w1.heap.size w1 ((w1.alloc (.cells #[.bool false,.slice a1 (ln G) (ln G)] 25))):=((Below.refl _ _).alloc (by (try simp only [World.size_alloc]);omega) _)
 replace hBW:=hBW.trans (cb1.mono hBW.size)
 replace q00:=below_cell cb1 q00
 replace q01:=below_cell cb1 q01
 replace q02:=below_cell cb1 q02
 replace q03:=below_cell cb1 q03
 replace r00:=below_cell cb1 r00
 replace r01:=below_cell cb1 r01
 replace r02:=below_cell cb1 r02
 replace hR0:=below_row cb1 hR0
 replace hg:=hg.later cb1
 have hL10:Row ((w1.alloc (.cells #[.bool false,.slice a1 (ln G) (ln G)] 25))) (w1.heap.size):=by
  have:=row_new (w1) #[.bool false,.slice a1 (ln G) (ln G)] 25
  try simp only [World.size_alloc] at this
  exact this
 go_wp2_with fail
 generalize (w1.alloc (.cells #[.bool false,.slice a1 (ln G) (ln G)] 25))=w1x at q00 q01 q02 q03 r00 r01 r02 l100 l101 hR0 hL10 hg hBW cb1 ⊢
 clear cb1
 refine (H1.out _ a1 (sb hS hB hBW) hg.seg).mono ?_
 rintro e w2 ⟨a2,c2,rfl,hq2,hr2⟩
 have b2:=hq2.below
 replace hq2:=hq2.back hBW
 replace hr2:=hr2.back hBW
 replace hBW:=hBW.trans (b2.mono hBW.size)
 replace q00:=below_cell b2 q00
 replace q01:=below_cell b2 q01
 replace q02:=below_cell b2 q02
 replace q03:=below_cell b2 q03
 replace r00:=below_cell b2 r00
 replace r01:=below_cell b2 r01
 replace r02:=below_cell b2 r02
 replace l100:=below_cell b2 l100
 replace l101:=below_cell b2 l101
 replace hR0:=below_row b2 hR0
 replace hL10:=below_row b2 hL10
 replace hg:=hg.later b2
 have hsz2:=hBW.size
 have hlt2hR0:=hR0.lt
 have hlt2hL10:=hL10.lt
 have l200:(((w2.alloc (.cells #[.bool (ng Z),.slice a2 (ln (am Z)) (ln (am Z))] 25)).alloc (.cells #[.bool (ng O),.slice c2 (ln (am O)) (ln (am O))] 25))).cell? ⟨w2.heap.size,0,none⟩=some (.bool (ng Z)):=by go_simp
 have l201:(((w2.alloc (.cells #[.bool (ng Z),.slice a2 (ln (am Z)) (ln (am Z))] 25)).alloc (.cells #[.bool (ng O),.slice c2 (ln (am O)) (ln (am O))] 25))).cell? ⟨w2.heap.size,1,none⟩=some (.slice a2 (ln (am Z)) (ln (am Z))):=by go_simp
 have l210:(((w2.alloc (.cells #[.bool (ng Z),.slice a2 (ln (am Z)) (ln (am Z))] 25)).alloc (.cells #[.bool (ng O),.slice c2 (ln (am O)) (ln (am O))] 25))).cell? ⟨w2.heap.size+1,0,none⟩=some (.bool (ng O)):=by go_simp
 have l211:(((w2.alloc (.cells #[.bool (ng Z),.slice a2 (ln (am Z)) (ln (am Z))] 25)).alloc (.cells #[.bool (ng O),.slice c2 (ln (am O)) (ln (am O))] 25))).cell? ⟨w2.heap.size+1,1,none⟩=some (.slice c2 (ln (am O)) (ln (am O))):=by go_simp
 have cb2:Below w2.heap.size w2 (((w2.alloc (.cells #[.bool (ng Z),.slice a2 (ln (am Z)) (ln (am Z))] 25)).alloc (.cells #[.bool (ng O),.slice c2 (ln (am O)) (ln (am O))] 25))):=(((Below.refl _ _).alloc (by (try simp only [World.size_alloc]);omega) _).alloc (by (try simp only [World.size_alloc]);omega) _)
 replace hBW:=hBW.trans (cb2.mono hBW.size)
 replace q00:=below_cell cb2 q00
 replace q01:=below_cell cb2 q01
 replace q02:=below_cell cb2 q02
 replace q03:=below_cell cb2 q03
 replace r00:=below_cell cb2 r00
 replace r01:=below_cell cb2 r01
 replace r02:=below_cell cb2 r02
 replace l100:=below_cell cb2 l100
 replace l101:=below_cell cb2 l101
 replace hR0:=below_row cb2 hR0
 replace hL10:=below_row cb2 hL10
 replace hg:=hg.later cb2
 replace hq2:=hq2.later cb2
 replace hr2:=hr2.later cb2
 have hL20:Row (((w2.alloc (.cells #[.bool (ng Z),.slice a2 (ln (am Z)) (ln (am Z))] 25)).alloc (.cells #[.bool (ng O),.slice c2 (ln (am O)) (ln (am O))] 25))) (w2.heap.size):=by
  have:=row_new (w2) #[.bool (ng Z),.slice a2 (ln (am Z)) (ln (am Z))] 25
  try simp only [World.size_alloc] at this
  exact (this.alloc _)
 have hL21:Row (((w2.alloc (.cells #[.bool (ng Z),.slice a2 (ln (am Z)) (ln (am Z))] 25)).alloc (.cells #[.bool (ng O),.slice c2 (ln (am O)) (ln (am O))] 25))) (w2.heap.size+1):=by
  have:=row_new ((w2.alloc (.cells #[.bool (ng Z),.slice a2 (ln (am Z)) (ln (am Z))] 25))) #[.bool (ng O),.slice c2 (ln (am O)) (ln (am O))] 25
  try simp only [World.size_alloc] at this
  exact this
 go_wp2_with fail
 generalize ((w2.alloc (.cells #[.bool (ng Z),.slice a2 (ln (am Z)) (ln (am Z))] 25)).alloc (.cells #[.bool (ng O),.slice c2 (ln (am O)) (ln (am O))] 25))=w2x at q00 q01 q02 q03 r00 r01 r02 l100 l101 l200 l201 l210 l211 hR0 hL10 hL20 hL21 hg hq2 hr2 hBW cb2 ⊢
 clear cb2
 have hsB:=hBW.size
 replace hB:=hB.trans (hBW.mono hB.size)
 have hltBhR0:=hR0.lt
 have hltBhL10:=hL10.lt
 have hltBhL20:=hL20.lt
 have hltBhL21:=hL21.lt
 clear hBW
 have hBW:Below w2x.heap.size w2x w2x:=Below.refl _ _
 have khg:=hg.seg
 clear hg
 have khq2:=hq2.seg
 clear hq2
 have khr2:=hr2.seg
 clear hr2
 refine (H2.out _ a1 (sb hS2 hB hBW) khg).mono ?_
 rintro e w3 ⟨a3,c3,rfl,hq3,hr3⟩
 have b3:=hq3.below
 replace hq3:=hq3.back hBW
 replace hr3:=hr3.back hBW
 replace hBW:=hBW.trans (b3.mono hBW.size)
 replace q00:=below_cell b3 q00
 replace q01:=below_cell b3 q01
 replace q02:=below_cell b3 q02
 replace q03:=below_cell b3 q03
 replace r00:=below_cell b3 r00
 replace r01:=below_cell b3 r01
 replace r02:=below_cell b3 r02
 replace l100:=below_cell b3 l100
 replace l101:=below_cell b3 l101
 replace l200:=below_cell b3 l200
 replace l201:=below_cell b3 l201
 replace l210:=below_cell b3 l210
 replace l211:=below_cell b3 l211
 replace hR0:=below_row b3 hR0
 replace hL10:=below_row b3 hL10
 replace hL20:=below_row b3 hL20
 replace hL21:=below_row b3 hL21
 replace khg:=khg.later b3
 replace khq2:=khq2.later b3
 replace khr2:=khr2.later b3
 have hsz3:=hBW.size
 have hlt3hR0:=hR0.lt
 have hlt3hL10:=hL10.lt
 have hlt3hL20:=hL20.lt
 have hlt3hL21:=hL21.lt
 have l300:(((w3.alloc (.cells #[.bool true,.slice a3 (ln Q) (ln Q)] 25)).alloc (.cells #[.bool (ng O),.slice c3 (ln (am O)) (ln (am O))] 25))).cell? ⟨w3.heap.size,0,none⟩=some (.bool true):=by go_simp
 have l301:(((w3.alloc (.cells #[.bool true,.slice a3 (ln Q) (ln Q)] 25)).alloc (.cells #[.bool (ng O),.slice c3 (ln (am O)) (ln (am O))] 25))).cell? ⟨w3.heap.size,1,none⟩=some (.slice a3 (ln Q) (ln Q)):=by go_simp
 have l310:(((w3.alloc (.cells #[.bool true,.slice a3 (ln Q) (ln Q)] 25)).alloc (.cells #[.bool (ng O),.slice c3 (ln (am O)) (ln (am O))] 25))).cell? ⟨w3.heap.size+1,0,none⟩=some (.bool (ng O)):=by go_simp
 have l311:(((w3.alloc (.cells #[.bool true,.slice a3 (ln Q) (ln Q)] 25)).alloc (.cells #[.bool (ng O),.slice c3 (ln (am O)) (ln (am O))] 25))).cell? ⟨w3.heap.size+1,1,none⟩=some (.slice c3 (ln (am O)) (ln (am O))):=by go_simp
 have cb3:Below w3.heap.size w3 (((w3.alloc (.cells #[.bool true,.slice a3 (ln Q) (ln Q)] 25)).alloc (.cells #[.bool (ng O),.slice c3 (ln (am O)) (ln (am O))] 25))):=(((Below.refl _ _).alloc (by (try simp only [World.size_alloc]);omega) _).alloc (by (try simp only [World.size_alloc]);omega) _)
 replace hBW:=hBW.trans (cb3.mono hBW.size)
 replace q00:=below_cell cb3 q00
 replace q01:=below_cell cb3 q01
 replace q02:=below_cell cb3 q02
 replace q03:=below_cell cb3 q03
 replace r00:=below_cell cb3 r00
 replace r01:=below_cell cb3 r01
 replace r02:=below_cell cb3 r02
 replace l100:=below_cell cb3 l100
 replace l101:=below_cell cb3 l101
 replace l200:=below_cell cb3 l200
 replace l201:=below_cell cb3 l201
 replace l210:=below_cell cb3 l210
 replace l211:=below_cell cb3 l211
 replace hR0:=below_row cb3 hR0
 replace hL10:=below_row cb3 hL10
 replace hL20:=below_row cb3 hL20
 replace hL21:=below_row cb3 hL21
 replace khg:=khg.later cb3
 replace khq2:=khq2.later cb3
 replace khr2:=khr2.later cb3
 replace hq3:=hq3.later cb3
 replace hr3:=hr3.later cb3
 have hL30:Row (((w3.alloc (.cells #[.bool true,.slice a3 (ln Q) (ln Q)] 25)).alloc (.cells #[.bool (ng O),.slice c3 (ln (am O)) (ln (am O))] 25))) (w3.heap.size):=by
  have:=row_new (w3) #[.bool true,.slice a3 (ln Q) (ln Q)] 25
  try simp only [World.size_alloc] at this
  exact (this.alloc _)
 have hL31:Row (((w3.alloc (.cells #[.bool true,.slice a3 (ln Q) (ln Q)] 25)).alloc (.cells #[.bool (ng O),.slice c3 (ln (am O)) (ln (am O))] 25))) (w3.heap.size+1):=by
  have:=row_new ((w3.alloc (.cells #[.bool true,.slice a3 (ln Q) (ln Q)] 25))) #[.bool (ng O),.slice c3 (ln (am O)) (ln (am O))] 25
  try simp only [World.size_alloc] at this
  exact this
 go_wp2_with fail
 generalize ((w3.alloc (.cells #[.bool true,.slice a3 (ln Q) (ln Q)] 25)).alloc (.cells #[.bool (ng O),.slice c3 (ln (am O)) (ln (am O))] 25))=w3x at q00 q01 q02 q03 r00 r01 r02 l100 l101 l200 l201 l210 l211 l300 l301 l310 l311 hR0 hL10 hL20 hL21 hL30 hL31 khg khq2 khr2 hq3 hr3 hBW cb3 ⊢
 clear cb3
 refine (H3.out _ a2 khq2).mono ?_
 rintro e w4 ⟨a4,rfl,hn⟩
 have b4:=hn.below
 have hap:=(ap_two hq3.seg hn).symm
 replace hn:=hn.back hBW
 replace hBW:=hBW.trans (b4.mono hBW.size)
 replace q00:=below_cell b4 q00
 replace q01:=below_cell b4 q01
 replace q02:=below_cell b4 q02
 replace q03:=below_cell b4 q03
 replace r00:=below_cell b4 r00
 replace r01:=below_cell b4 r01
 replace r02:=below_cell b4 r02
 replace l100:=below_cell b4 l100
 replace l101:=below_cell b4 l101
 replace l200:=below_cell b4 l200
 replace l201:=below_cell b4 l201
 replace l210:=below_cell b4 l210
 replace l211:=below_cell b4 l211
 replace l300:=below_cell b4 l300
 replace l301:=below_cell b4 l301
 replace l310:=below_cell b4 l310
 replace l311:=below_cell b4 l311
 replace hR0:=below_row b4 hR0
 replace hL10:=below_row b4 hL10
 replace hL20:=below_row b4 hL20
 replace hL21:=below_row b4 hL21
 replace hL30:=below_row b4 hL30
 replace hL31:=below_row b4 hL31
 replace khg:=khg.later b4
 replace khq2:=khq2.later b4
 replace khr2:=khr2.later b4
 replace hq3:=hq3.later b4
 replace hr3:=hr3.later b4
 have hsB:=hBW.size
 have hM:Mid w.heap.size w2x.heap.size w4 ((w4.setCell ⟨w2.heap.size,0,none⟩ (.bool (ng Z2))).setCell ⟨w2.heap.size,1,none⟩ (.slice a4 (ln (am Z2)) (ln (am Z2)))):=(((Mid.refl _ _ _).set _ _ (by omega) (by omega) _).set _ _ (by omega) (by omega) _)
 have eM:=set2_same (w:=w4) (c:=w2.heap.size) (u:=.bool (ng Z2)) (v:=.slice a4 (ln (am Z2)) (ln (am Z2))) l200 l201
 have q00_:(((w4.setCell ⟨w2.heap.size,0,none⟩ (.bool (ng Z2))).setCell ⟨w2.heap.size,1,none⟩ (.slice a4 (ln (am Z2)) (ln (am Z2))))).cell? ⟨w.heap.size,0,none⟩=some (.bool s):=(set2_far (by omega)).trans q00
 have q01_:(((w4.setCell ⟨w2.heap.size,0,none⟩ (.bool (ng Z2))).setCell ⟨w2.heap.size,1,none⟩ (.slice a4 (ln (am Z2)) (ln (am Z2))))).cell? ⟨w.heap.size,1,none⟩=some (.slice ao n cap):=(set2_far (by omega)).trans q01
 have q02_:(((w4.setCell ⟨w2.heap.size,0,none⟩ (.bool (ng Z2))).setCell ⟨w2.heap.size,1,none⟩ (.slice a4 (ln (am Z2)) (ln (am Z2))))).cell? ⟨w.heap.size,2,none⟩=some (.bool true):=(set2_far (by omega)).trans q02
 have q03_:(((w4.setCell ⟨w2.heap.size,0,none⟩ (.bool (ng Z2))).setCell ⟨w2.heap.size,1,none⟩ (.slice a4 (ln (am Z2)) (ln (am Z2))))).cell? ⟨w.heap.size,3,none⟩=some (.slice ao2 m cap2):=(set2_far (by omega)).trans q03
 have r00_:(((w4.setCell ⟨w2.heap.size,0,none⟩ (.bool (ng Z2))).setCell ⟨w2.heap.size,1,none⟩ (.slice a4 (ln (am Z2)) (ln (am Z2))))).cell? ⟨w.heap.size+1,0,none⟩=some (.bool false):=(set2_far (by omega)).trans r00
 have r01_:(((w4.setCell ⟨w2.heap.size,0,none⟩ (.bool (ng Z2))).setCell ⟨w2.heap.size,1,none⟩ (.slice a4 (ln (am Z2)) (ln (am Z2))))).cell? ⟨w.heap.size+1,1,none⟩=some (.slice none 0 0):=(set2_far (by omega)).trans r01
 have r02_:(((w4.setCell ⟨w2.heap.size,0,none⟩ (.bool (ng Z2))).setCell ⟨w2.heap.size,1,none⟩ (.slice a4 (ln (am Z2)) (ln (am Z2))))).cell? ⟨w.heap.size+1,2,none⟩=some (.slice none 0 0):=(set2_far (by omega)).trans r02
 have l100_:(((w4.setCell ⟨w2.heap.size,0,none⟩ (.bool (ng Z2))).setCell ⟨w2.heap.size,1,none⟩ (.slice a4 (ln (am Z2)) (ln (am Z2))))).cell? ⟨w1.heap.size,0,none⟩=some (.bool false):=(set2_far (by omega)).trans l100
 have l101_:(((w4.setCell ⟨w2.heap.size,0,none⟩ (.bool (ng Z2))).setCell ⟨w2.heap.size,1,none⟩ (.slice a4 (ln (am Z2)) (ln (am Z2))))).cell? ⟨w1.heap.size,1,none⟩=some (.slice a1 (ln G) (ln G)):=(set2_far (by omega)).trans l101
 have l200_:(((w4.setCell ⟨w2.heap.size,0,none⟩ (.bool (ng Z2))).setCell ⟨w2.heap.size,1,none⟩ (.slice a4 (ln (am Z2)) (ln (am Z2))))).cell? ⟨w2.heap.size,0,none⟩=some (.bool (ng Z2)):=eM.1
 have l201_:(((w4.setCell ⟨w2.heap.size,0,none⟩ (.bool (ng Z2))).setCell ⟨w2.heap.size,1,none⟩ (.slice a4 (ln (am Z2)) (ln (am Z2))))).cell? ⟨w2.heap.size,1,none⟩=some (.slice a4 (ln (am Z2)) (ln (am Z2))):=eM.2
 have l210_:(((w4.setCell ⟨w2.heap.size,0,none⟩ (.bool (ng Z2))).setCell ⟨w2.heap.size,1,none⟩ (.slice a4 (ln (am Z2)) (ln (am Z2))))).cell? ⟨w2.heap.size+1,0,none⟩=some (.bool (ng O)):=(set2_far (by omega)).trans l210
 have l211_:(((w4.setCell ⟨w2.heap.size,0,none⟩ (.bool (ng Z2))).setCell ⟨w2.heap.size,1,none⟩ (.slice a4 (ln (am Z2)) (ln (am Z2))))).cell? ⟨w2.heap.size+1,1,none⟩=some (.slice c2 (ln (am O)) (ln (am O))):=(set2_far (by omega)).trans l211
 have l300_:(((w4.setCell ⟨w2.heap.size,0,none⟩ (.bool (ng Z2))).setCell ⟨w2.heap.size,1,none⟩ (.slice a4 (ln (am Z2)) (ln (am Z2))))).cell? ⟨w3.heap.size,0,none⟩=some (.bool true):=(set2_far (by omega)).trans l300
 have l301_:(((w4.setCell ⟨w2.heap.size,0,none⟩ (.bool (ng Z2))).setCell ⟨w2.heap.size,1,none⟩ (.slice a4 (ln (am Z2)) (ln (am Z2))))).cell? ⟨w3.heap.size,1,none⟩=some (.slice a3 (ln Q) (ln Q)):=(set2_far (by omega)).trans l301
 have l310_:(((w4.setCell ⟨w2.heap.size,0,none⟩ (.bool (ng Z2))).setCell ⟨w2.heap.size,1,none⟩ (.slice a4 (ln (am Z2)) (ln (am Z2))))).cell? ⟨w3.heap.size+1,0,none⟩=some (.bool (ng O)):=(set2_far (by omega)).trans l310
 have l311_:(((w4.setCell ⟨w2.heap.size,0,none⟩ (.bool (ng Z2))).setCell ⟨w2.heap.size,1,none⟩ (.slice a4 (ln (am Z2)) (ln (am Z2))))).cell? ⟨w3.heap.size+1,1,none⟩=some (.slice c3 (ln (am O)) (ln (am O))):=(set2_far (by omega)).trans l311
 have hR0_:=((hR0.setCell ⟨w2.heap.size,0,none⟩ (.bool (ng Z2))).setCell ⟨w2.heap.size,1,none⟩ (.slice a4 (ln (am Z2)) (ln (am Z2))))
 have fzhR0:=fun o=>hR0.frozen o
 have hL10_:=((hL10.setCell ⟨w2.heap.size,0,none⟩ (.bool (ng Z2))).setCell ⟨w2.heap.size,1,none⟩ (.slice a4 (ln (am Z2)) (ln (am Z2))))
 have fzhL10:=fun o=>hL10.frozen o
 have hL20_:=((hL20.setCell ⟨w2.heap.size,0,none⟩ (.bool (ng Z2))).setCell ⟨w2.heap.size,1,none⟩ (.slice a4 (ln (am Z2)) (ln (am Z2))))
 have fzhL20:=fun o=>hL20.frozen o
 have hL21_:=((hL21.setCell ⟨w2.heap.size,0,none⟩ (.bool (ng Z2))).setCell ⟨w2.heap.size,1,none⟩ (.slice a4 (ln (am Z2)) (ln (am Z2))))
 have fzhL21:=fun o=>hL21.frozen o
 have hL30_:=((hL30.setCell ⟨w2.heap.size,0,none⟩ (.bool (ng Z2))).setCell ⟨w2.heap.size,1,none⟩ (.slice a4 (ln (am Z2)) (ln (am Z2))))
 have fzhL30:=fun o=>hL30.frozen o
 have hL31_:=((hL31.setCell ⟨w2.heap.size,0,none⟩ (.bool (ng Z2))).setCell ⟨w2.heap.size,1,none⟩ (.slice a4 (ln (am Z2)) (ln (am Z2))))
 have fzhL31:=fun o=>hL31.frozen o
 replace khg:=khg.set2 (u0:=.bool (ng Z2)) (u1:=.slice a4 (ln (am Z2)) (ln (am Z2))) l200 l201
 replace khq2:=khq2.set2 (u0:=.bool (ng Z2)) (u1:=.slice a4 (ln (am Z2)) (ln (am Z2))) l200 l201
 replace khr2:=khr2.set2 (u0:=.bool (ng Z2)) (u1:=.slice a4 (ln (am Z2)) (ln (am Z2))) l200 l201
 replace hq3:=(hq3.fre).mid hM
 replace hr3:=(hr3.fre).mid hM
 replace hn:=(hn.fre).mid hM
 have hBn:=(hB.trans (hBW.mono hB.size)).trans (hM.below (Nat.le_trans hB.size hBW.size))
 have hsM:=hM.size
 clear hM eM
 have fzhR0_:=fun o=>hR0_.frozen o
 have fzhL10_:=fun o=>hL10_.frozen o
 have fzhL20_:=fun o=>hL20_.frozen o
 have fzhL21_:=fun o=>hL21_.frozen o
 have fzhL30_:=fun o=>hL30_.frozen o
 have fzhL31_:=fun o=>hL31_.frozen o
 go_wp2
 all_goals refine bodyPost_ret (v:=.agg #[.bool (ng Z2),.slice a4 (ln (am Z2)) (ln (am Z2)),.slice a3 (ln Q) (ln Q)]) (by rw [results_cell rfl];go_simp) rfl ?_
 all_goals exact ⟨a4,a3,rfl,hn.fin hBn hB.size (((((Mid.refl _ _ _).set _ _ (by omega) (by omega) _).set _ _ (by omega) (by omega) _).set _ _ (by omega) (by omega) _)),hq3.fin hBn hB.size (((((Mid.refl _ _ _).set _ _ (by omega) (by omega) _).set _ _ (by omega) (by omega) _).set _ _ (by omega) (by omega) _)),hap⟩
theorem lowestt_ap (s:Bool) (ao:Option Addr) (n cap X:Nat) (t:Bool) (ao2:Option Addr) (m cap2 Y V:Nat) (Z:Int) (w:World) (hc:n≤cap) (hm:n≤70368744177660) (hS:Seg w ao X n) (hc2:m≤cap2) (hm2:m≤70368744177660) (hS2:Seg w ao2 Y m) (hL:Low (sg s X) (sg t Y) Z V) :
  Calls Tryz.prog 75 #[.agg #[.bool s,.slice ao n cap,.bool t,.slice ao2 m cap2]] w fun e w'=>∃ p q,e=.returned (.agg #[.bool (ng Z),.slice p (ln (am Z)) (ln (am Z)),.slice q (ln V) (ln V)])∧New w w' p (am Z) (ln (am Z))∧New w w' q V (ln V)∧Ap p (ln (am Z)) q (ln V):=by
 cases t
 ·exact lowest_ap s ao n cap X ao2 m cap2 Y V Z w hc hm hS hc2 hm2 hS2 hL
 ·have hY:Y≠0:=fun e=>hL.ne (by rw [e];rfl)
  obtain ⟨P,Q,hP,hQ⟩:=gcd_parts X Y
  have h:=low_made s true hY rfl hP hQ
  simp only [if_true] at h
  obtain ⟨rfl,rfl⟩:=hL.uniq h rfl
  exact lowestn_ap s ao n cap X ao2 m cap2 Y P V _ _ w hc hm hS hc2 hm2 hS2 hY hP hQ rfl rfl
set_option maxHeartbeats 2000000 in
theorem qOf_ap (s:Bool) (ao:Option Addr) (n cap X:Nat) (t:Bool) (ao2:Option Addr) (m cap2 Y V:Nat) (Z:Int) (w:World) (hc:n≤cap) (hm:n≤70368744177660) (hS:Seg w ao X n) (hc2:m≤cap2) (hm2:m≤70368744177660) (hS2:Seg w ao2 Y m) (hL:Low (sg s X) (sg t Y) Z V) :
  Calls Tryz.prog 105 #[.agg #[.bool s,.slice ao n cap],.agg #[.bool t,.slice ao2 m cap2]] w fun e w'=>∃ p q,e=.returned (.tuple #[.agg #[.bool (ng Z),.slice p (ln (am Z)) (ln (am Z)),.slice q (ln V) (ln V)],.int .i64 0])∧New w w' p (am Z) (ln (am Z))∧New w w' q V (ln V)∧Ap p (ln (am Z)) q (ln V):=by
 obtain ⟨C,hC⟩:∃ C,sgn (sg t Y)=C:=⟨_,rfl⟩
 have hb:(C == 0)=false:=by
  have hne:=hL.ne
  rw [←hC,beq_eq_false_iff_ne]
  have hY:Y≠0:=fun e=>hne (by rw [e];exact sg_zero t)
  rw [sgn_sg hY]
  have:=sd_range t
  omega
 have HS':=fun w' k=>wSign_is t ao2 m cap2 Y (sg t Y) w' hc2 (by omega) k rfl
 rw [hC] at HS'
 have HS:=hide' HS'
 have HL:=hide' hL
 clear HS' hL hC
 go_enter Tryz.func105,Tryz.ntmps105
 go_wp2_with fail
 obtain ⟨W,hW⟩:∃ W,(((w.alloc (.cells #[.bool s,.slice ao n cap] 25)).alloc (.cells #[.bool t,.slice ao2 m cap2] 25)).alloc (.cells #[.bool false,.slice none 0 0,.slice none 0 0] 27))=W:=⟨_,rfl⟩
 have q00:W.cell? ⟨w.heap.size,0,none⟩=some (.bool s):=by subst hW;go_simp
 have q01:W.cell? ⟨w.heap.size,1,none⟩=some (.slice ao n cap):=by subst hW;go_simp
 have q10:W.cell? ⟨w.heap.size+1,0,none⟩=some (.bool t):=by subst hW;go_simp
 have q11:W.cell? ⟨w.heap.size+1,1,none⟩=some (.slice ao2 m cap2):=by subst hW;go_simp
 have r00:W.cell? ⟨w.heap.size+1+1,0,none⟩=some (.bool false):=by subst hW;go_simp
 have r01:W.cell? ⟨w.heap.size+1+1,1,none⟩=some (.slice none 0 0):=by subst hW;go_simp
 have r02:W.cell? ⟨w.heap.size+1+1,2,none⟩=some (.slice none 0 0):=by subst hW;go_simp
 have hB:Below w.heap.size w W:=by subst hW;exact ((((Below.refl _ _).alloc (by (try simp only [World.size_alloc]);omega) _).alloc (by (try simp only [World.size_alloc]);omega) _).alloc (by (try simp only [World.size_alloc]);omega) _)
 have hR0:Row W (w.heap.size+1+1):=by
  have:=row_new (((w.alloc (.cells #[.bool s,.slice ao n cap] 25)).alloc (.cells #[.bool t,.slice ao2 m cap2] 25))) #[.bool false,.slice none 0 0,.slice none 0 0] 27
  try simp only [World.size_alloc] at this
  subst hW;exact this
 have hz:W.heap.size=w.heap.size+1+1+1:=by subst hW;simp only [World.size_alloc]
 rw [hW]
 clear hW
 have hBW:Below W.heap.size W W:=Below.refl _ _
 refine (HS.out _ (sb hS2 hB hBW)).mono ?_
 rintro e w1 ⟨rfl,b1⟩
 replace hBW:=hBW.trans (b1.mono hBW.size)
 replace q00:=below_cell b1 q00
 replace q01:=below_cell b1 q01
 replace q10:=below_cell b1 q10
 replace q11:=below_cell b1 q11
 replace r00:=below_cell b1 r00
 replace r01:=below_cell b1 r01
 replace r02:=below_cell b1 r02
 replace hR0:=below_row b1 hR0
 go_wp2_with fail
 refine (lowestt_ap s ao n cap X t ao2 m cap2 Y V Z _ hc hm (sb hS hB hBW) hc2 hm2 (sb hS2 hB hBW) HL.out).mono ?_
 rintro e w2 ⟨p2,q2,rfl,hp2,hq2,hap2⟩
 have b2:=hp2.below
 replace hp2:=hp2.back hBW
 replace hq2:=hq2.back hBW
 replace hBW:=hBW.trans (b2.mono hBW.size)
 replace q00:=below_cell b2 q00
 replace q01:=below_cell b2 q01
 replace q10:=below_cell b2 q10
 replace q11:=below_cell b2 q11
 replace r00:=below_cell b2 r00
 replace r01:=below_cell b2 r01
 replace r02:=below_cell b2 r02
 replace hR0:=below_row b2 hR0
 have fz0:=fun o=>hR0.frozen o
 go_wp2
 all_goals refine bodyPost_ret (v:=.tuple #[Value.agg #[Value.bool (ng Z),Value.slice p2 (ln (am Z)) (ln (am Z)),Value.slice q2 (ln V) (ln V)],.int .i64 0]) (by rw [results_ct rfl];go_simp) rfl ?_
 all_goals exact ⟨p2,q2,rfl,hp2.mid hB (((((Mid.refl _ _ _).set _ _ (by omega) (by omega) _).set _ _ (by omega) (by omega) _).set _ _ (by omega) (by omega) _)),hq2.mid hB (((((Mid.refl _ _ _).set _ _ (by omega) (by omega) _).set _ _ (by omega) (by omega) _).set _ _ (by omega) (by omega) _)),hap2⟩
set_option maxHeartbeats 4000000 in
set_option maxRecDepth 100000 in
theorem qDiv_ap (s0:Bool) (a0:Option Addr) (n0 c0 X0:Nat) (b0:Option Addr) (m0 d0 Y0:Nat) (s1:Bool) (a1:Option Addr) (n1 c1 X1:Nat) (b1:Option Addr) (m1 d1 Y1:Nat) (Z:Int) (V:Nat) (w:World) (hc0:n0≤c0) (hm0:n0≤35184372088000) (hS0:Seg w a0 X0 n0) (hd0:m0≤d0) (hk0:m0≤35184372088000) (hT0:Seg w b0 Y0 m0) (hc1:n1≤c1) (hm1:n1≤35184372088000) (hS1:Seg w a1 X1 n1) (hd1:m1≤d1) (hk1:m1≤35184372088000) (hT1:Seg w b1 Y1 m1) (hL:Low (rn s0 X0 Y0*(rd Y1:Nat)) ((rd Y0:Nat)*rn s1 X1 Y1) Z V) :
  Calls Tryz.prog 77 #[Value.agg #[Value.bool s0,Value.slice a0 n0 c0,Value.slice b0 m0 d0],Value.agg #[Value.bool s1,Value.slice a1 n1 c1,Value.slice b1 m1 d1]] w fun e w'=>∃ p q,e=.returned (.tuple #[.agg #[.bool (ng Z),.slice p (ln (am Z)) (ln (am Z)),.slice q (ln V) (ln V)],.int .i64 0])∧New w w' p (am Z) (ln (am Z))∧New w w' q V (ln V)∧Ap p (ln (am Z)) q (ln V):=by
 obtain ⟨P,hP⟩:∃ P,rn s0 X0 Y0*((rd Y1:Nat):Int)=P:=⟨_,rfl⟩
 obtain ⟨D,hD⟩:∃ D,((rd Y0:Nat):Int)*rn s1 X1 Y1=D:=⟨_,rfl⟩
 have lP:ln (am P)≤70368744176012:=by rw [←hP,am_mul,am_nat];have:=ln_prod (Nat.lt_of_le_of_lt (rn_am s0 X0 Y0) hS0.1) (rd_lt hT1.1);omega
 have lD:ln (am D)≤70368744176012:=by rw [←hD,am_mul,am_nat];have:=ln_prod (rd_lt hT0.1) (Nat.lt_of_le_of_lt (rn_am s1 X1 Y1) hS1.1);omega
 rw [hP,hD] at hL
 have H5:=hide' (fun w' p q k1 k2=>qOf_ap (ng P) p (ln (am P)) (ln (am P)) (am P) (ng D) q (ln (am D)) (ln (am D)) (am D) V Z w' (Nat.le_refl _) (by omega) k1 (Nat.le_refl _) (by omega) k2 (by rw [sg_na,sg_na];exact hL))
 clear hL
 have HP:=hide' hP
 have HD:=hide' hD
 clear hP hD
 have HR0:=hide' (fun w' k1 k2=>read_is s0 a0 n0 c0 X0 b0 m0 d0 Y0 35184372088000 w' hc0 hm0 k1 hd0 hk0 k2 (by omega) (by omega))
 have HR1:=hide' (fun w' k1 k2=>read_is s1 a1 n1 c1 X1 b1 m1 d1 Y1 35184372088000 w' hc1 hm1 k1 hd1 hk1 k2 (by omega) (by omega))
 go_enter Tryz.func77,Tryz.ntmps77
 go_upto_region 1 with fail
 obtain ⟨W,hW⟩:∃ W,(((w.alloc (.cells #[.bool s0,.slice a0 n0 c0,.slice b0 m0 d0] 27)).alloc (.cells #[.bool s1,.slice a1 n1 c1,.slice b1 m1 d1] 27)).alloc (.cells #[.bool false,.slice none 0 0,.slice none 0 0] 27))=W:=⟨_,rfl⟩
 have q00:W.cell? ⟨w.heap.size,0,none⟩=some (.bool s0):=by subst hW;go_simp
 have q01:W.cell? ⟨w.heap.size,1,none⟩=some (.slice a0 n0 c0):=by subst hW;go_simp
 have q02:W.cell? ⟨w.heap.size,2,none⟩=some (.slice b0 m0 d0):=by subst hW;go_simp
 have q10:W.cell? ⟨w.heap.size+1,0,none⟩=some (.bool s1):=by subst hW;go_simp
 have q11:W.cell? ⟨w.heap.size+1,1,none⟩=some (.slice a1 n1 c1):=by subst hW;go_simp
 have q12:W.cell? ⟨w.heap.size+1,2,none⟩=some (.slice b1 m1 d1):=by subst hW;go_simp
 have r00:W.cell? ⟨w.heap.size+1+1,0,none⟩=some (.bool false):=by subst hW;go_simp
 have r01:W.cell? ⟨w.heap.size+1+1,1,none⟩=some (.slice none 0 0):=by subst hW;go_simp
 have r02:W.cell? ⟨w.heap.size+1+1,2,none⟩=some (.slice none 0 0):=by subst hW;go_simp
 have hB:Below w.heap.size w W:=by subst hW;exact ((((Below.refl _ _).alloc (by (try simp only [World.size_alloc]);omega) _).alloc (by (try simp only [World.size_alloc]);omega) _).alloc (by (try simp only [World.size_alloc]);omega) _)
 have hR0:Row W (w.heap.size+1+1):=by
  have:=row_new (((w.alloc (.cells #[.bool s0,.slice a0 n0 c0,.slice b0 m0 d0] 27)).alloc (.cells #[.bool s1,.slice a1 n1 c1,.slice b1 m1 d1] 27))) #[.bool false,.slice none 0 0,.slice none 0 0] 27
  try simp only [World.size_alloc] at this
  subst hW;exact this
 have hz:W.heap.size=w.heap.size+1+1+1:=by subst hW;simp only [World.size_alloc]
 rw [hW]
 clear hW
 have hBW:Below W.heap.size W W:=Below.refl _ _
 have hz1:=Nat.le_of_eq hz
 have hz2:=Nat.le_of_eq hz.symm
 clear hz
 go_cut [6,7] from 8 to 11 (fun s5 s6 wx=>∃ c d zs11 zp11 zn11 zc11 zX11 zq11 zm11 zd11 zs12 zp12 zn12 zc12 zX12 zq12 zm12 zd12,s5=.pointer (some ⟨c,0,none⟩)∧s6=.pointer (some ⟨d,0,none⟩)∧W.heap.size≤c∧W.heap.size≤d∧Below W.heap.size W wx∧wx.cell? ⟨c,0,none⟩=some (.bool zs11)∧wx.cell? ⟨c,1,none⟩=some (.slice zp11 zn11 zc11)∧wx.cell? ⟨c,2,none⟩=some (.bool false)∧wx.cell? ⟨c,3,none⟩=some (.slice zq11 zm11 zd11)∧wx.cell? ⟨d,0,none⟩=some (.bool zs12)∧wx.cell? ⟨d,1,none⟩=some (.slice zp12 zn12 zc12)∧wx.cell? ⟨d,2,none⟩=some (.bool false)∧wx.cell? ⟨d,3,none⟩=some (.slice zq12 zm12 zd12)∧zn11≤zc11∧zn11≤35184372088000∧zm11≤zd11∧zm11≤35184372088000∧Seg wx zp11 zX11 zn11∧Seg wx zq11 (rd Y0) zm11∧sg zs11 zX11=rn s0 X0 Y0∧zn12≤zc12∧zn12≤35184372088000∧zm12≤zd12∧zm12≤35184372088000∧Seg wx zp12 zX12 zn12∧Seg wx zq12 (rd Y1) zm12∧sg zs12 zX12=rn s1 X1 Y1)
 case first =>
  have Qq00:=q00
  have Qq01:=q01
  have Qq02:=q02
  have Qq10:=q10
  have Qq11:=q11
  have Qq12:=q12
  clear q00 q01 q02 q10 q11 q12 r00 r01 r02 hR0
  replace hBW:=hBW.drew
  refine wp_region_held_drew (S:=(fun w'=>w'.cell? ⟨w.heap.size,0,none⟩=some (.bool s0)∧w'.cell? ⟨w.heap.size,1,none⟩=some (.slice a0 n0 c0)∧w'.cell? ⟨w.heap.size,2,none⟩=some (.slice b0 m0 d0)∧w'.cell? ⟨w.heap.size+1,0,none⟩=some (.bool s1)∧w'.cell? ⟨w.heap.size+1,1,none⟩=some (.slice a1 n1 c1)∧w'.cell? ⟨w.heap.size+1,2,none⟩=some (.slice b1 m1 d1)∧Below w.heap.size w w')) (by kernel_rfl) (kp6 (W:=W) hBW ⟨Qq00,Qq01,Qq02,Qq10,Qq11,Qq12,hB⟩) (fun hHeld=>?_)
  generalize W.drew=w0 at hBW hHeld ⊢
  refine tk 0 (v:=?_) rfl (Or.inl ⟨by rfl,?_⟩) ?_
  rotate_left
  ·intro w9 hSw
   go_simp
   first | done | with_reducible rfl
  simp only [pP,pN,pS,pZ,pC]
  refine tk 2 (v:=?_) rfl (Or.inl ⟨by rfl,?_⟩) ?_
  rotate_left
  ·intro w9 hSw
   go_simp
   first | done | with_reducible rfl
  simp only [pP,pN,pS,pZ,pC]
  have hs0:=hBW.size
  obtain ⟨va0,hva0⟩:∃ v,Value.agg #[.bool s0,.slice a0 n0 c0,.slice b0 m0 d0]=v:=⟨_,rfl⟩
  rw [hva0] at HR0 ⊢
  obtain ⟨P0,hP0⟩:∃ P:World→Value→Prop,P=fun W v=>∃ zs11 zp11 zn11 zc11 zX11 zq11 zm11 zd11,v=.agg #[.bool zs11,.slice zp11 zn11 zc11,.bool false,.slice zq11 zm11 zd11]∧zn11≤zc11∧zn11≤35184372088000∧zm11≤zd11∧zm11≤35184372088000∧Seg W zp11 zX11 zn11∧Seg W zq11 (rd Y0) zm11∧sg zs11 zX11=rn s0 X0 Y0:=⟨_,rfl⟩
  have P0_b:∀ {W W':World} {v:Value},Below W.heap.size W W'→P0 W v→P0 W' v:=fun {W W' v} hb h=>by
   rw [hP0] at h ⊢
   obtain ⟨zs11,zp11,zn11,zc11,zX11,zq11,zm11,zd11,e,ga11,gb11,gc11,gd11,kS11,kT11,ge11⟩:=h
   exact ⟨zs11,zp11,zn11,zc11,zX11,zq11,zm11,zd11,e,ga11,gb11,gc11,gd11,kS11.later hb,kT11.later hb,ge11⟩
  have GC0:∀ W':World,Below w0.heap.size w0 W'→Calls Tryz.prog 79 #[va0] W' fun e w'=>∃ v,e=.returned v∧Below W'.heap.size W' w'∧P0 w' v:=fun W' hb=>by
   have hX:=hBW.trans (hb.mono hBW.size)
   refine (HR0.out _ (sb hS0 hB hX) (sb hT0 hB hX)).mono ?_
   rintro e W2 ⟨zs11,zp11,zn11,zc11,zX11,zq11,zm11,zd11,rfl,ga11,gb11,gc11,gd11,kS11,kT11,ge11,bb11⟩
   exact ⟨_,rfl,bb11,by rw [hP0];exact ⟨zs11,zp11,zn11,zc11,zX11,zq11,zm11,zd11,rfl,ga11,gb11,gc11,gd11,kS11,kT11,ge11⟩⟩
  obtain ⟨va1,hva1⟩:∃ v,Value.agg #[.bool s1,.slice a1 n1 c1,.slice b1 m1 d1]=v:=⟨_,rfl⟩
  rw [hva1] at HR1 ⊢
  obtain ⟨P1,hP1⟩:∃ P:World→Value→Prop,P=fun W v=>∃ zs12 zp12 zn12 zc12 zX12 zq12 zm12 zd12,v=.agg #[.bool zs12,.slice zp12 zn12 zc12,.bool false,.slice zq12 zm12 zd12]∧zn12≤zc12∧zn12≤35184372088000∧zm12≤zd12∧zm12≤35184372088000∧Seg W zp12 zX12 zn12∧Seg W zq12 (rd Y1) zm12∧sg zs12 zX12=rn s1 X1 Y1:=⟨_,rfl⟩
  have P1_b:∀ {W W':World} {v:Value},Below W.heap.size W W'→P1 W v→P1 W' v:=fun {W W' v} hb h=>by
   rw [hP1] at h ⊢
   obtain ⟨zs12,zp12,zn12,zc12,zX12,zq12,zm12,zd12,e,ga12,gb12,gc12,gd12,kS12,kT12,ge12⟩:=h
   exact ⟨zs12,zp12,zn12,zc12,zX12,zq12,zm12,zd12,e,ga12,gb12,gc12,gd12,kS12.later hb,kT12.later hb,ge12⟩
  have GC1:∀ W':World,Below w0.heap.size w0 W'→Calls Tryz.prog 79 #[va1] W' fun e w'=>∃ v,e=.returned v∧Below W'.heap.size W' w'∧P1 w' v:=fun W' hb=>by
   have hX:=hBW.trans (hb.mono hBW.size)
   refine (HR1.out _ (sb hS1 hB hX) (sb hT1 hB hX)).mono ?_
   rintro e W2 ⟨zs12,zp12,zn12,zc12,zX12,zq12,zm12,zd12,rfl,ga12,gb12,gc12,gd12,kS12,kT12,ge12,bb12⟩
   exact ⟨_,rfl,bb12,by rw [hP1];exact ⟨zs12,zp12,zn12,zc12,zX12,zq12,zm12,zd12,rfl,ga12,gb12,gc12,gd12,kS12,kT12,ge12⟩⟩
  have bZ:Below w0.heap.size w0 w0:=Below.refl _ _
  refine nameH w0.heap.size (fun W1 W2 hb h=>(⟨below_cell hb h.1,below_cell hb h.2.1,below_cell hb h.2.2.1,below_cell hb h.2.2.2.1,below_cell hb h.2.2.2.2.1,below_cell hb h.2.2.2.2.2.1,h.2.2.2.2.2.2.trans (hb.mono h.2.2.2.2.2.2.size)⟩:_∧_∧_∧_∧_∧_∧_)) (fun W1 W2 c hg hk h=>(⟨cellsT hk (by omega) h.1,cellsT hk (by omega) h.2.1,cellsT hk (by omega) h.2.2.1,cellsT hk (by omega) h.2.2.2.1,cellsT hk (by omega) h.2.2.2.2.1,cellsT hk (by omega) h.2.2.2.2.2.1,h.2.2.2.2.2.2.trans (hk.below (by omega))⟩:_∧_∧_∧_∧_∧_∧_)) ?_
  intro G SS F hG hS0 hSB hSC hF
  replace hHeld:=hS0 _ hHeld
  clear hS0
  obtain ⟨z0V,hz0V⟩:∃ z:Array Value,#[.bool false,.slice none 0 0,.bool false,.slice none 0 0]=z:=⟨_,rfl⟩
  have b0V:∀ W:World,Below W.heap.size W (W.alloc (.cells z0V 85)):=fun W=>below_alloc _
  have st2cd:∀ (WW:World) (v0 v1:Value) (cc cd:Nat),P0 WW v0→P1 WW v1→Vb w0.heap.size z0V 85 WW cc→Vb w0.heap.size z0V 85 WW cd→cc≠cd→Below w0.heap.size w0 WW→SS WW→G 2 #[true,true,true,true,true,true,false,false] (F [(9,v0),(11,v1),(6,.pointer (some ⟨cc,0,none⟩)),(7,.pointer (some ⟨cd,0,none⟩))]) WW:=by
   intro WW v0 v1 cc cd k0 k1 qc qd ncd bT hH
   rw [hF]
   simp only [List.foldl_cons,List.foldl_nil,List.setIfInBounds_toArray,List.set_cons_zero,List.set_cons_succ]
   refine (hG _ _ _ _).2 ?_
   rw [hP0] at k0
   obtain ⟨zs11,zp11,zn11,zc11,zX11,zq11,zm11,zd11,rfl,ga11,gb11,gc11,gd11,kS11,kT11,ge11⟩:=k0
   rw [hP1] at k1
   obtain ⟨zs12,zp12,zn12,zc12,zX12,zq12,zm12,zd12,rfl,ga12,gb12,gc12,gd12,kS12,kT12,ge12⟩:=k1
   obtain ⟨qc,lcge⟩:=qc
   obtain ⟨qd,ldge⟩:=qd
   subst hva0 hva1 hz0V
   refine wpAnyH_ready (rs:=[6]) (by kernel_rfl) (by simp) ?_
   refine cons' rfl (fun KK hKK=>?_)
   have z0:=qc.cell 0
   have z1:=qc.cell 1
   have z2:=qc.cell 2
   have z3:=qc.cell 3
   simp only [List.getElem?_toArray,List.getElem?_cons_zero,List.getElem?_cons_succ] at z0 z1 z2 z3
   have fz:=fun o=>qc.frozen o
   obtain ⟨c9,q9⟩:=qc.set4 (.bool zs11) (.slice zp11 zn11 zc11) (.bool false) (.slice zq11 zm11 zd11)
   have hno:=qc.no (by simp)
   replace kS11:=kS11.ch c9 hno
   replace kT11:=kT11.ch c9 hno
   replace kS12:=kS12.ch c9 hno
   replace kT12:=kT12.ch c9 hno
   replace qd:=qd.ch c9 (by omega)
   replace bT:=bT.trans (c9.below lcge)
   replace hH:=hSC _ _ _ lcge c9 hH
   go_simp
   clear z0 z1 z2 z3 fz hno c9
   replace qc:=q9
   refine hKK.out _ _ hH ?_
   intro _
   clear hKK KK
   try simp only [pP,pN,pS,pZ,pC]
   generalize ((((WW.setCell ⟨cc,0,none⟩ (.bool zs11)).setCell ⟨cc,1,none⟩ (.slice zp11 zn11 zc11)).setCell ⟨cc,2,none⟩ (.bool false)).setCell ⟨cc,3,none⟩ (.slice zq11 zm11 zd11))=wLc at kS11 kT11 kS12 kT12 qc qd bT hH ⊢
   refine wpAnyH_ready (rs:=[7]) (by kernel_rfl) (by simp) ?_
   refine cons' rfl (fun KK hKK=>?_)
   have z0:=qd.cell 0
   have z1:=qd.cell 1
   have z2:=qd.cell 2
   have z3:=qd.cell 3
   simp only [List.getElem?_toArray,List.getElem?_cons_zero,List.getElem?_cons_succ] at z0 z1 z2 z3
   have fz:=fun o=>qd.frozen o
   obtain ⟨c9,q9⟩:=qd.set4 (.bool zs12) (.slice zp12 zn12 zc12) (.bool false) (.slice zq12 zm12 zd12)
   have hno:=qd.no (by simp)
   replace kS11:=kS11.ch c9 hno
   replace kT11:=kT11.ch c9 hno
   replace kS12:=kS12.ch c9 hno
   replace kT12:=kT12.ch c9 hno
   replace qc:=qc.ch c9 (by omega)
   replace bT:=bT.trans (c9.below ldge)
   replace hH:=hSC _ _ _ ldge c9 hH
   go_simp
   clear z0 z1 z2 z3 fz hno c9
   replace qd:=q9
   refine hKK.out _ _ hH ?_
   intro _
   clear hKK KK
   try simp only [pP,pN,pS,pZ,pC]
   generalize ((((wLc.setCell ⟨cd,0,none⟩ (.bool zs12)).setCell ⟨cd,1,none⟩ (.slice zp12 zn12 zc12)).setCell ⟨cd,2,none⟩ (.bool false)).setCell ⟨cd,3,none⟩ (.slice zq12 zm12 zd12))=wLd at kS11 kT11 kS12 kT12 qc qd bT hH ⊢
   refine wpAnyH_done (by kernel_rfl) ?_ _
   have lc0:=qc.cell 0
   have lc1:=qc.cell 1
   have lc2:=qc.cell 2
   have lc3:=qc.cell 3
   have ld0:=qd.cell 0
   have ld1:=qd.cell 1
   have ld2:=qd.cell 2
   have ld3:=qd.cell 3
   simp only [List.getElem?_toArray,List.getElem?_cons_zero,List.getElem?_cons_succ] at lc0 lc1 lc2 lc3 ld0 ld1 ld2 ld3
   replace lcge:=Nat.le_trans hs0 lcge
   replace ldge:=Nat.le_trans hs0 ldge
   have hBW:=hBW.trans (bT.mono hs0)
   go_wp2_with fail
   go_meet
   exact ⟨cc,cd,zs11,zp11,zn11,zc11,zX11,zq11,zm11,zd11,zs12,zp12,zn12,zc12,zX12,zq12,zm12,zd12,rfl,rfl,lcge,ldge,hBW,lc0,lc1,lc2,lc3,ld0,ld1,ld2,ld3,ga11,gb11,gc11,gd11,kS11,kT11,ge11,ga12,gb12,gc12,gd12,kS12,kT12,ge12⟩
  have st2c:∀ (WW:World) (v0 v1:Value) (cc:Nat),P0 WW v0→P1 WW v1→Vb w0.heap.size z0V 85 WW cc→Below w0.heap.size w0 WW→SS WW→G 3 #[true,true,true,true,true,false,false,false] (F [(9,v0),(11,v1),(6,.pointer (some ⟨cc,0,none⟩))]) WW:=by
   intro WW v0 v1 cc k0 k1 qc bT hH
   rw [hF]
   simp only [List.foldl_cons,List.foldl_nil,List.setIfInBounds_toArray,List.set_cons_zero,List.set_cons_succ]
   refine (hG _ _ _ _).2 ?_
   refine wpAnyH_ready (rs:=[5]) (by kernel_rfl) (by simp) ?_
   refine consT rfl (fun KK hKK=>?_) ?_
   ·go_simp
    try rw [hz0V]
    refine hKK.out _ _ (hSB _ _ (b0V WW) hH) ?_
    intro _
    try simp only [pP,pN,pS,pZ,pC]
    exact (hG _ _ _ _).1 (Geq (by kernel_rfl) (by kernel_rfl) (by rw [hF];kernel_rfl) (st2cd _ v0 v1 cc WW.heap.size (P0_b (b0V WW) k0) (P1_b (b0V WW) k1) (qc.later (b0V WW)) (Vb.new _ _ bT (Nat.le_refl _)) (Nat.ne_of_lt qc.1.lt) (blw bT (b0V WW)) (hSB _ _ (b0V WW) hH)))
   exact AllReadyH.nil
  have st2d:∀ (WW:World) (v0 v1:Value) (cd:Nat),P0 WW v0→P1 WW v1→Vb w0.heap.size z0V 85 WW cd→Below w0.heap.size w0 WW→SS WW→G 3 #[true,true,true,true,false,true,false,false] (F [(9,v0),(11,v1),(7,.pointer (some ⟨cd,0,none⟩))]) WW:=by
   intro WW v0 v1 cd k0 k1 qd bT hH
   rw [hF]
   simp only [List.foldl_cons,List.foldl_nil,List.setIfInBounds_toArray,List.set_cons_zero,List.set_cons_succ]
   refine (hG _ _ _ _).2 ?_
   refine wpAnyH_ready (rs:=[4]) (by kernel_rfl) (by simp) ?_
   refine consT rfl (fun KK hKK=>?_) ?_
   ·go_simp
    try rw [hz0V]
    refine hKK.out _ _ (hSB _ _ (b0V WW) hH) ?_
    intro _
    try simp only [pP,pN,pS,pZ,pC]
    exact (hG _ _ _ _).1 (Geq (by kernel_rfl) (by kernel_rfl) (by rw [hF];kernel_rfl) (st2cd _ v0 v1 WW.heap.size cd (P0_b (b0V WW) k0) (P1_b (b0V WW) k1) (Vb.new _ _ bT (Nat.le_refl _)) (qd.later (b0V WW)) (Nat.ne_of_gt qd.1.lt) (blw bT (b0V WW)) (hSB _ _ (b0V WW) hH)))
   exact AllReadyH.nil
  have st2:∀ (WW:World) (v0 v1:Value),P0 WW v0→P1 WW v1→Below w0.heap.size w0 WW→SS WW→G 4 #[true,true,true,true,false,false,false,false] (F [(9,v0),(11,v1)]) WW:=by
   intro WW v0 v1 k0 k1 bT hH
   rw [hF]
   simp only [List.foldl_cons,List.foldl_nil,List.setIfInBounds_toArray,List.set_cons_zero,List.set_cons_succ]
   refine (hG _ _ _ _).2 ?_
   refine wpAnyH_ready (rs:=[4,5]) (by kernel_rfl) (by simp) ?_
   refine consT rfl (fun KK hKK=>?_) ?_
   ·go_simp
    try rw [hz0V]
    refine hKK.out _ _ (hSB _ _ (b0V WW) hH) ?_
    intro _
    try simp only [pP,pN,pS,pZ,pC]
    exact (hG _ _ _ _).1 (Geq (by kernel_rfl) (by kernel_rfl) (by rw [hF];kernel_rfl) (st2c _ v0 v1 WW.heap.size (P0_b (b0V WW) k0) (P1_b (b0V WW) k1) (Vb.new _ _ bT (Nat.le_refl _)) (blw bT (b0V WW)) (hSB _ _ (b0V WW) hH)))
   refine consT rfl (fun KK hKK=>?_) ?_
   ·go_simp
    try rw [hz0V]
    refine hKK.out _ _ (hSB _ _ (b0V WW) hH) ?_
    intro _
    try simp only [pP,pN,pS,pZ,pC]
    exact (hG _ _ _ _).1 (Geq (by kernel_rfl) (by kernel_rfl) (by rw [hF];kernel_rfl) (st2d _ v0 v1 WW.heap.size (P0_b (b0V WW) k0) (P1_b (b0V WW) k1) (Vb.new _ _ bT (Nat.le_refl _)) (blw bT (b0V WW)) (hSB _ _ (b0V WW) hH)))
   exact AllReadyH.nil
  have st1cd:∀ (WW:World) (v0:Value) (cc cd:Nat),P0 WW v0→Vb w0.heap.size z0V 85 WW cc→Vb w0.heap.size z0V 85 WW cd→cc≠cd→Below w0.heap.size w0 WW→SS WW→G 3 #[true,true,true,false,true,true,false,false] (F [(9,v0),(6,.pointer (some ⟨cc,0,none⟩)),(7,.pointer (some ⟨cd,0,none⟩))]) WW:=by
   intro WW v0 cc cd k0 qc qd ncd bT hH
   rw [hF]
   simp only [List.foldl_cons,List.foldl_nil,List.setIfInBounds_toArray,List.set_cons_zero,List.set_cons_succ]
   refine (hG _ _ _ _).2 ?_
   refine wpAnyH_ready (rs:=[3]) (by kernel_rfl) (by simp) ?_
   refine consT rfl (fun KK hKK=>?_) ?_
   ·go_simp
    refine (GC1 _ bT).mono ?_
    rintro e W2 ⟨v1,rfl,bC,k1⟩
    go_wp2_with fail
    refine hKK.out _ _ (hSB _ _ bC hH) ?_
    intro _
    try simp only [pP,pN,pS,pZ,pC]
    exact (hG _ _ _ _).1 (Geq (by kernel_rfl) (by kernel_rfl) (by rw [hF];kernel_rfl) (st2cd W2 v0 v1 cc cd (P0_b bC k0) k1 (qc.later bC) (qd.later bC) ncd (blw bT bC) (hSB _ _ bC hH)))
   exact AllReadyH.nil
  have st1c:∀ (WW:World) (v0:Value) (cc:Nat),P0 WW v0→Vb w0.heap.size z0V 85 WW cc→Below w0.heap.size w0 WW→SS WW→G 4 #[true,true,true,false,true,false,false,false] (F [(9,v0),(6,.pointer (some ⟨cc,0,none⟩))]) WW:=by
   intro WW v0 cc k0 qc bT hH
   rw [hF]
   simp only [List.foldl_cons,List.foldl_nil,List.setIfInBounds_toArray,List.set_cons_zero,List.set_cons_succ]
   refine (hG _ _ _ _).2 ?_
   refine wpAnyH_ready (rs:=[3,5]) (by kernel_rfl) (by simp) ?_
   refine consT rfl (fun KK hKK=>?_) ?_
   ·go_simp
    refine (GC1 _ bT).mono ?_
    rintro e W2 ⟨v1,rfl,bC,k1⟩
    go_wp2_with fail
    refine hKK.out _ _ (hSB _ _ bC hH) ?_
    intro _
    try simp only [pP,pN,pS,pZ,pC]
    exact (hG _ _ _ _).1 (Geq (by kernel_rfl) (by kernel_rfl) (by rw [hF];kernel_rfl) (st2c W2 v0 v1 cc (P0_b bC k0) k1 (qc.later bC) (blw bT bC) (hSB _ _ bC hH)))
   refine consT rfl (fun KK hKK=>?_) ?_
   ·go_simp
    try rw [hz0V]
    refine hKK.out _ _ (hSB _ _ (b0V WW) hH) ?_
    intro _
    try simp only [pP,pN,pS,pZ,pC]
    exact (hG _ _ _ _).1 (Geq (by kernel_rfl) (by kernel_rfl) (by rw [hF];kernel_rfl) (st1cd _ v0 cc WW.heap.size (P0_b (b0V WW) k0) (qc.later (b0V WW)) (Vb.new _ _ bT (Nat.le_refl _)) (Nat.ne_of_lt qc.1.lt) (blw bT (b0V WW)) (hSB _ _ (b0V WW) hH)))
   exact AllReadyH.nil
  have st1d:∀ (WW:World) (v0:Value) (cd:Nat),P0 WW v0→Vb w0.heap.size z0V 85 WW cd→Below w0.heap.size w0 WW→SS WW→G 4 #[true,true,true,false,false,true,false,false] (F [(9,v0),(7,.pointer (some ⟨cd,0,none⟩))]) WW:=by
   intro WW v0 cd k0 qd bT hH
   rw [hF]
   simp only [List.foldl_cons,List.foldl_nil,List.setIfInBounds_toArray,List.set_cons_zero,List.set_cons_succ]
   refine (hG _ _ _ _).2 ?_
   refine wpAnyH_ready (rs:=[3,4]) (by kernel_rfl) (by simp) ?_
   refine consT rfl (fun KK hKK=>?_) ?_
   ·go_simp
    refine (GC1 _ bT).mono ?_
    rintro e W2 ⟨v1,rfl,bC,k1⟩
    go_wp2_with fail
    refine hKK.out _ _ (hSB _ _ bC hH) ?_
    intro _
    try simp only [pP,pN,pS,pZ,pC]
    exact (hG _ _ _ _).1 (Geq (by kernel_rfl) (by kernel_rfl) (by rw [hF];kernel_rfl) (st2d W2 v0 v1 cd (P0_b bC k0) k1 (qd.later bC) (blw bT bC) (hSB _ _ bC hH)))
   refine consT rfl (fun KK hKK=>?_) ?_
   ·go_simp
    try rw [hz0V]
    refine hKK.out _ _ (hSB _ _ (b0V WW) hH) ?_
    intro _
    try simp only [pP,pN,pS,pZ,pC]
    exact (hG _ _ _ _).1 (Geq (by kernel_rfl) (by kernel_rfl) (by rw [hF];kernel_rfl) (st1cd _ v0 WW.heap.size cd (P0_b (b0V WW) k0) (Vb.new _ _ bT (Nat.le_refl _)) (qd.later (b0V WW)) (Nat.ne_of_gt qd.1.lt) (blw bT (b0V WW)) (hSB _ _ (b0V WW) hH)))
   exact AllReadyH.nil
  have st1:∀ (WW:World) (v0:Value),P0 WW v0→Below w0.heap.size w0 WW→SS WW→G 5 #[true,true,true,false,false,false,false,false] (F [(9,v0)]) WW:=by
   intro WW v0 k0 bT hH
   rw [hF]
   simp only [List.foldl_cons,List.foldl_nil,List.setIfInBounds_toArray,List.set_cons_zero,List.set_cons_succ]
   refine (hG _ _ _ _).2 ?_
   refine wpAnyH_ready (rs:=[3,4,5]) (by kernel_rfl) (by simp) ?_
   refine consT rfl (fun KK hKK=>?_) ?_
   ·go_simp
    refine (GC1 _ bT).mono ?_
    rintro e W2 ⟨v1,rfl,bC,k1⟩
    go_wp2_with fail
    refine hKK.out _ _ (hSB _ _ bC hH) ?_
    intro _
    try simp only [pP,pN,pS,pZ,pC]
    exact (hG _ _ _ _).1 (Geq (by kernel_rfl) (by kernel_rfl) (by rw [hF];kernel_rfl) (st2 W2 v0 v1 (P0_b bC k0) k1 (blw bT bC) (hSB _ _ bC hH)))
   refine consT rfl (fun KK hKK=>?_) ?_
   ·go_simp
    try rw [hz0V]
    refine hKK.out _ _ (hSB _ _ (b0V WW) hH) ?_
    intro _
    try simp only [pP,pN,pS,pZ,pC]
    exact (hG _ _ _ _).1 (Geq (by kernel_rfl) (by kernel_rfl) (by rw [hF];kernel_rfl) (st1c _ v0 WW.heap.size (P0_b (b0V WW) k0) (Vb.new _ _ bT (Nat.le_refl _)) (blw bT (b0V WW)) (hSB _ _ (b0V WW) hH)))
   refine consT rfl (fun KK hKK=>?_) ?_
   ·go_simp
    try rw [hz0V]
    refine hKK.out _ _ (hSB _ _ (b0V WW) hH) ?_
    intro _
    try simp only [pP,pN,pS,pZ,pC]
    exact (hG _ _ _ _).1 (Geq (by kernel_rfl) (by kernel_rfl) (by rw [hF];kernel_rfl) (st1d _ v0 WW.heap.size (P0_b (b0V WW) k0) (Vb.new _ _ bT (Nat.le_refl _)) (blw bT (b0V WW)) (hSB _ _ (b0V WW) hH)))
   exact AllReadyH.nil
  have st0cd:∀ (WW:World) (cc cd:Nat),Vb w0.heap.size z0V 85 WW cc→Vb w0.heap.size z0V 85 WW cd→cc≠cd→Below w0.heap.size w0 WW→SS WW→G 4 #[true,false,true,false,true,true,false,false] (F [(6,.pointer (some ⟨cc,0,none⟩)),(7,.pointer (some ⟨cd,0,none⟩))]) WW:=by
   intro WW cc cd qc qd ncd bT hH
   rw [hF]
   simp only [List.foldl_cons,List.foldl_nil,List.setIfInBounds_toArray,List.set_cons_zero,List.set_cons_succ]
   refine (hG _ _ _ _).2 ?_
   refine wpAnyH_ready (rs:=[1]) (by kernel_rfl) (by simp) ?_
   refine consT rfl (fun KK hKK=>?_) ?_
   ·go_simp
    refine (GC0 _ bT).mono ?_
    rintro e W2 ⟨v0,rfl,bC,k0⟩
    go_wp2_with fail
    refine hKK.out _ _ (hSB _ _ bC hH) ?_
    intro _
    try simp only [pP,pN,pS,pZ,pC]
    exact (hG _ _ _ _).1 (Geq (by kernel_rfl) (by kernel_rfl) (by rw [hF];kernel_rfl) (st1cd W2 v0 cc cd k0 (qc.later bC) (qd.later bC) ncd (blw bT bC) (hSB _ _ bC hH)))
   exact AllReadyH.nil
  have st0c:∀ (WW:World) (cc:Nat),Vb w0.heap.size z0V 85 WW cc→Below w0.heap.size w0 WW→SS WW→G 5 #[true,false,true,false,true,false,false,false] (F [(6,.pointer (some ⟨cc,0,none⟩))]) WW:=by
   intro WW cc qc bT hH
   rw [hF]
   simp only [List.foldl_cons,List.foldl_nil,List.setIfInBounds_toArray,List.set_cons_zero,List.set_cons_succ]
   refine (hG _ _ _ _).2 ?_
   refine wpAnyH_ready (rs:=[1,5]) (by kernel_rfl) (by simp) ?_
   refine consT rfl (fun KK hKK=>?_) ?_
   ·go_simp
    refine (GC0 _ bT).mono ?_
    rintro e W2 ⟨v0,rfl,bC,k0⟩
    go_wp2_with fail
    refine hKK.out _ _ (hSB _ _ bC hH) ?_
    intro _
    try simp only [pP,pN,pS,pZ,pC]
    exact (hG _ _ _ _).1 (Geq (by kernel_rfl) (by kernel_rfl) (by rw [hF];kernel_rfl) (st1c W2 v0 cc k0 (qc.later bC) (blw bT bC) (hSB _ _ bC hH)))
   refine consT rfl (fun KK hKK=>?_) ?_
   ·go_simp
    try rw [hz0V]
    refine hKK.out _ _ (hSB _ _ (b0V WW) hH) ?_
    intro _
    try simp only [pP,pN,pS,pZ,pC]
    exact (hG _ _ _ _).1 (Geq (by kernel_rfl) (by kernel_rfl) (by rw [hF];kernel_rfl) (st0cd _ cc WW.heap.size (qc.later (b0V WW)) (Vb.new _ _ bT (Nat.le_refl _)) (Nat.ne_of_lt qc.1.lt) (blw bT (b0V WW)) (hSB _ _ (b0V WW) hH)))
   exact AllReadyH.nil
  have st0d:∀ (WW:World) (cd:Nat),Vb w0.heap.size z0V 85 WW cd→Below w0.heap.size w0 WW→SS WW→G 5 #[true,false,true,false,false,true,false,false] (F [(7,.pointer (some ⟨cd,0,none⟩))]) WW:=by
   intro WW cd qd bT hH
   rw [hF]
   simp only [List.foldl_cons,List.foldl_nil,List.setIfInBounds_toArray,List.set_cons_zero,List.set_cons_succ]
   refine (hG _ _ _ _).2 ?_
   refine wpAnyH_ready (rs:=[1,4]) (by kernel_rfl) (by simp) ?_
   refine consT rfl (fun KK hKK=>?_) ?_
   ·go_simp
    refine (GC0 _ bT).mono ?_
    rintro e W2 ⟨v0,rfl,bC,k0⟩
    go_wp2_with fail
    refine hKK.out _ _ (hSB _ _ bC hH) ?_
    intro _
    try simp only [pP,pN,pS,pZ,pC]
    exact (hG _ _ _ _).1 (Geq (by kernel_rfl) (by kernel_rfl) (by rw [hF];kernel_rfl) (st1d W2 v0 cd k0 (qd.later bC) (blw bT bC) (hSB _ _ bC hH)))
   refine consT rfl (fun KK hKK=>?_) ?_
   ·go_simp
    try rw [hz0V]
    refine hKK.out _ _ (hSB _ _ (b0V WW) hH) ?_
    intro _
    try simp only [pP,pN,pS,pZ,pC]
    exact (hG _ _ _ _).1 (Geq (by kernel_rfl) (by kernel_rfl) (by rw [hF];kernel_rfl) (st0cd _ WW.heap.size cd (Vb.new _ _ bT (Nat.le_refl _)) (qd.later (b0V WW)) (Nat.ne_of_gt qd.1.lt) (blw bT (b0V WW)) (hSB _ _ (b0V WW) hH)))
   exact AllReadyH.nil
  have st0:∀ (WW:World),Below w0.heap.size w0 WW→SS WW→G 6 #[true,false,true,false,false,false,false,false] (F []) WW:=by
   intro WW bT hH
   rw [hF]
   simp only [List.foldl_cons,List.foldl_nil,List.setIfInBounds_toArray,List.set_cons_zero,List.set_cons_succ]
   refine (hG _ _ _ _).2 ?_
   refine wpAnyH_ready (rs:=[1,4,5]) (by kernel_rfl) (by simp) ?_
   refine consT rfl (fun KK hKK=>?_) ?_
   ·go_simp
    refine (GC0 _ bT).mono ?_
    rintro e W2 ⟨v0,rfl,bC,k0⟩
    go_wp2_with fail
    refine hKK.out _ _ (hSB _ _ bC hH) ?_
    intro _
    try simp only [pP,pN,pS,pZ,pC]
    exact (hG _ _ _ _).1 (Geq (by kernel_rfl) (by kernel_rfl) (by rw [hF];kernel_rfl) (st1 W2 v0 k0 (blw bT bC) (hSB _ _ bC hH)))
   refine consT rfl (fun KK hKK=>?_) ?_
   ·go_simp
    try rw [hz0V]
    refine hKK.out _ _ (hSB _ _ (b0V WW) hH) ?_
    intro _
    try simp only [pP,pN,pS,pZ,pC]
    exact (hG _ _ _ _).1 (Geq (by kernel_rfl) (by kernel_rfl) (by rw [hF];kernel_rfl) (st0c _ WW.heap.size (Vb.new _ _ bT (Nat.le_refl _)) (blw bT (b0V WW)) (hSB _ _ (b0V WW) hH)))
   refine consT rfl (fun KK hKK=>?_) ?_
   ·go_simp
    try rw [hz0V]
    refine hKK.out _ _ (hSB _ _ (b0V WW) hH) ?_
    intro _
    try simp only [pP,pN,pS,pZ,pC]
    exact (hG _ _ _ _).1 (Geq (by kernel_rfl) (by kernel_rfl) (by rw [hF];kernel_rfl) (st0d _ WW.heap.size (Vb.new _ _ bT (Nat.le_refl _)) (blw bT (b0V WW)) (hSB _ _ (b0V WW) hH)))
   exact AllReadyH.nil
  exact Geq (by kernel_rfl) (by kernel_rfl) (by rw [hF];kernel_rfl) (st0 _ bZ hHeld)
 case rest =>
 clear hBW HR0 HR1
 obtain ⟨c,d,zs11,zp11,zn11,zc11,zX11,zq11,zm11,zd11,zs12,zp12,zn12,zc12,zX12,zq12,zm12,zd12,rfl,rfl,lcge,ldge,hBW,lc0,lc1,lc2,lc3,ld0,ld1,ld2,ld3,ga11,gb11,gc11,gd11,kS11,kT11,ge11,ga12,gb12,gc12,gd12,kS12,kT12,ge12⟩:=hcut
 replace q00:=below_cell hBW q00
 replace q01:=below_cell hBW q01
 replace q02:=below_cell hBW q02
 replace q10:=below_cell hBW q10
 replace q11:=below_cell hBW q11
 replace q12:=below_cell hBW q12
 replace r00:=below_cell hBW r00
 replace r01:=below_cell hBW r01
 replace r02:=below_cell hBW r02
 replace hR0:=below_row hBW hR0
 have hp:sg zs11 zX11*sg false (rd Y1)=P:=by rw [ge11];exact HP.out
 have hd:sg false (rd Y0)*sg zs12 zX12=D:=by rw [ge12];exact HD.out
 go_wp2_with fail
 replace hBW:=hBW.drew
 replace kS11:=kS11.drew
 replace kT11:=kT11.drew
 replace kS12:=kS12.drew
 replace kT12:=kT12.drew
 first
  | go_region_held3 (fun w'=>w'.cell? ⟨c,0,none⟩=some (.bool zs11)∧w'.cell? ⟨c,1,none⟩=some (.slice zp11 zn11 zc11)∧w'.cell? ⟨c,2,none⟩=some (.bool false)∧w'.cell? ⟨c,3,none⟩=some (.slice zq11 zm11 zd11)∧w'.cell? ⟨d,0,none⟩=some (.bool zs12)∧w'.cell? ⟨d,1,none⟩=some (.slice zp12 zn12 zc12)∧w'.cell? ⟨d,2,none⟩=some (.bool false)∧w'.cell? ⟨d,3,none⟩=some (.slice zq12 zm12 zd12)∧Below w.heap.size w w')
    (first | exact ⟨lc0,lc1,lc2,lc3,ld0,ld1,ld2,ld3,hB.trans (hBW.mono hB.size)⟩ | exact kp8 b21 (by assumption) | exact kp8 b22 (by assumption) | exact kp8 b23 (by assumption) | exact kp8 (below_alloc _) (by assumption) | exact kp8 (below_alloc _) ⟨lc0,lc1,lc2,lc3,ld0,ld1,ld2,ld3,hB.trans (hBW.mono hB.size)⟩ | exact kpT8_3 (by assumption) (by omega) (by omega) (by omega) (by omega) (by omega) (by omega) (by omega) (by omega) (by omega))
    (first
     | (go_at_call 82;go_at_call_of 82 (Value.agg #[Value.bool zs11,Value.slice zp11 zn11 zc11]);go_at_call_of 82 (Value.agg #[Value.bool false,Value.slice zq12 zm12 zd12]);refine (wMul_is zs11 zp11 zn11 zc11 zX11 false zq12 zm12 zd12 (rd Y1) P _ ga11 (by omega) kS11 gc12 (by omega) kT12 hp).mono ?_;rintro e w21 ⟨a21,rfl,h1⟩;have b21:=h1.below;replace h1:=h1.back hBW;replace hBW:=hBW.trans (b21.mono hBW.size);replace q00:=below_cell b21 q00;replace q01:=below_cell b21 q01;replace q02:=below_cell b21 q02;replace q10:=below_cell b21 q10;replace q11:=below_cell b21 q11;replace q12:=below_cell b21 q12;replace r00:=below_cell b21 r00;replace r01:=below_cell b21 r01;replace r02:=below_cell b21 r02;replace lc0:=below_cell b21 lc0;replace lc1:=below_cell b21 lc1;replace lc2:=below_cell b21 lc2;replace lc3:=below_cell b21 lc3;replace ld0:=below_cell b21 ld0;replace ld1:=below_cell b21 ld1;replace ld2:=below_cell b21 ld2;replace ld3:=below_cell b21 ld3;replace hR0:=below_row b21 hR0;replace kS11:=kS11.later b21;replace kT11:=kT11.later b21;replace kS12:=kS12.later b21;replace kT12:=kT12.later b21)
     | (go_at_call 82;go_at_call_of 82 (Value.agg #[Value.bool false,Value.slice zq11 zm11 zd11]);go_at_call_of 82 (Value.agg #[Value.bool zs12,Value.slice zp12 zn12 zc12]);refine (wMul_is false zq11 zm11 zd11 (rd Y0) zs12 zp12 zn12 zc12 zX12 D _ gc11 (by omega) kT11 ga12 (by omega) kS12 hd).mono ?_;rintro e w22 ⟨a22,rfl,h2⟩;have b22:=h2.below;replace h2:=h2.back hBW;replace hBW:=hBW.trans (b22.mono hBW.size);replace q00:=below_cell b22 q00;replace q01:=below_cell b22 q01;replace q02:=below_cell b22 q02;replace q10:=below_cell b22 q10;replace q11:=below_cell b22 q11;replace q12:=below_cell b22 q12;replace r00:=below_cell b22 r00;replace r01:=below_cell b22 r01;replace r02:=below_cell b22 r02;replace lc0:=below_cell b22 lc0;replace lc1:=below_cell b22 lc1;replace lc2:=below_cell b22 lc2;replace lc3:=below_cell b22 lc3;replace ld0:=below_cell b22 ld0;replace ld1:=below_cell b22 ld1;replace ld2:=below_cell b22 ld2;replace ld3:=below_cell b22 ld3;replace hR0:=below_row b22 hR0;replace kS11:=kS11.later b22;replace kT11:=kT11.later b22;replace kS12:=kS12.later b22;replace kT12:=kT12.later b22;replace h1:=h1.later b22)
     | (go_at_call 105;(fail_if_success clear b23);refine (H5.out _ a21 a22 h1.seg h2.seg).mono ?_;rintro e w23 ⟨p23,q23,rfl,hp23,hq23,hap23⟩;have b23:=hp23.below;replace hp23:=hp23.back hBW;replace hq23:=hq23.back hBW;replace hBW:=hBW.trans (b23.mono hBW.size);replace q00:=below_cell b23 q00;replace q01:=below_cell b23 q01;replace q02:=below_cell b23 q02;replace q10:=below_cell b23 q10;replace q11:=below_cell b23 q11;replace q12:=below_cell b23 q12;replace r00:=below_cell b23 r00;replace r01:=below_cell b23 r01;replace r02:=below_cell b23 r02;replace lc0:=below_cell b23 lc0;replace lc1:=below_cell b23 lc1;replace lc2:=below_cell b23 lc2;replace lc3:=below_cell b23 lc3;replace ld0:=below_cell b23 ld0;replace ld1:=below_cell b23 ld1;replace ld2:=below_cell b23 ld2;replace ld3:=below_cell b23 ld3;replace hR0:=below_row b23 hR0;replace kS11:=kS11.later b23;replace kT11:=kT11.later b23;replace kS12:=kS12.later b23;replace kT12:=kT12.later b23;replace h1:=h1.later b23;replace h2:=h2.later b23;have fz:=fun o=>hR0.frozen o))
  | fail
 have fz0:=fun o=>hR0.frozen o
 go_wp2
 all_goals refine bodyPost_ret (v:=.tuple #[Value.agg #[Value.bool (ng Z),Value.slice p23 (ln (am Z)) (ln (am Z)),Value.slice q23 (ln V) (ln V)],.int .i64 0]) (by rw [results_ct rfl];go_simp) rfl ?_
 all_goals exact ⟨p23,q23,rfl,hp23.mid hB (((((Mid.refl _ _ _).set _ _ (by omega) (by omega) _).set _ _ (by omega) (by omega) _).set _ _ (by omega) (by omega) _)),hq23.mid hB (((((Mid.refl _ _ _).set _ _ (by omega) (by omega) _).set _ _ (by omega) (by omega) _).set _ _ (by omega) (by omega) _)),hap23⟩
end Go.Proofs.YtfppjaoddicgpaaGreatDoor
