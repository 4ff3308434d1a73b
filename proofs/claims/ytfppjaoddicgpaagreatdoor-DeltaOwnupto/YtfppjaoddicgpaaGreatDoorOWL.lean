import Derived.Test.YtfppjaoddicgpaaGreatDoorOW1
import Derived.Test.YtfppjaoddicgpaaGreatDoorWQN
set_option linter.unusedSimpArgs false
namespace Go.Proofs.YtfppjaoddicgpaaGreatDoor
open Go.RowKit
set_option linter.unusedVariables false
set_option maxHeartbeats 2000000 in
set_option maxRecDepth 100000 in
theorem lowestp_ap (s:Bool) (ao:Option Addr) (n cap X:Nat) (ao2:Option Addr) (m cap2 Y P Q:Nat) (Z:Int) (w:World) (hc:n≤cap) (hm:n≤70368744177660) (hS:Seg w ao X n) (hc2:m≤cap2) (hm2:m≤70368744177660) (hS2:Seg w ao2 Y m)
  (hY:Y≠0) (hP:X=P*Nat.gcd X Y) (hQ:Y=Q*Nat.gcd X Y) (hZ:sg s P=Z) :
  Calls Tryz.prog 75 #[.agg #[.bool s,.slice ao n cap,.bool false,.slice ao2 m cap2]] w fun e w'=>∃ p q,e=.returned (.agg #[.bool (ng Z),.slice p (ln (am Z)) (ln (am Z)),.slice q (ln Q) (ln Q)])∧New w w' p (am Z) (ln (am Z))∧New w w' q Q (ln Q)∧Ap p (ln (am Z)) q (ln Q):=by
 obtain ⟨G,hG⟩:∃ G,Nat.gcd X Y=G:=⟨_,rfl⟩
 have hG0:0 < G:=by rw [←hG];exact Nat.gcd_pos_of_pos_right _ (by omega)
 have hlG:ln G≤70368744177660:=by
  have:G≤Y:=by rw [←hG];exact Nat.gcd_le_right _ (by omega)
  have:=ln_le_of_lt (Nat.lt_of_le_of_lt this hS2.1);omega
 rw [hG] at hP hQ
 obtain ⟨V,hV⟩:∃ V:Int,((Q:Nat):Int)=V:=⟨_,rfl⟩
 have hQV:Q=am V:=by rw [←hV];exact (am_nat Q).symm
 have hng:ng V=false:=by rw [←hV];exact ng_nat Q
 obtain ⟨O,hO⟩:∃ O:Int,(0:Int)=O:=⟨_,rfl⟩
 have HG:=hide' (fun w' k1 k2=>wGcd_is s ao n cap X false ao2 m cap2 Y G w' hc (by omega) k1 hc2 (by omega) k2 hG)
 have H1:=hide' (fun w' ag k1 k2=>wQuo_is s ao n cap X false ag (ln G) (ln G) G P 0 Z O w' hc (by omega) k1 (Nat.le_refl _) (by omega) k2 (by omega) hG0 (by rw [←hZ];cases s <;> rfl) ((sg_zero s).trans hO))
 have H2':=fun w' ag k1 k2=>wQuo_is false ao2 m cap2 Y false ag (ln G) (ln G) G Q 0 V O w' hc2 (by omega) k1 (Nat.le_refl _) (by omega) k2 (by omega) hG0 (by rw [←hV];rfl) ((sg_zero false).trans hO)
 rw [hng,←hQV] at H2'
 have H2:=hide' H2'
 clear hP hQ hG hG0 hZ hQV hV hY hO H2' hng
 go_enter Tryz.func75,Tryz.ntmps75
 go_wp2_with fail
 obtain ⟨W,hW⟩:∃ W,((w.alloc (.cells #[.bool s,.slice ao n cap,.bool false,.slice ao2 m cap2] 85)).alloc (.cells #[.bool false,.slice none 0 0,.slice none 0 0] 27))=W:=⟨_,rfl⟩
 have q00:W.cell? ⟨w.heap.size,0,none⟩=some (.bool s):=by subst hW;go_simp
 have q01:W.cell? ⟨w.heap.size,1,none⟩=some (.slice ao n cap):=by subst hW;go_simp
 have q02:W.cell? ⟨w.heap.size,2,none⟩=some (.bool false):=by subst hW;go_simp
 have q03:W.cell? ⟨w.heap.size,3,none⟩=some (.slice ao2 m cap2):=by subst hW;go_simp
 have r00:W.cell? ⟨w.heap.size+1,0,none⟩=some (.bool false):=by subst hW;go_simp
 have r01:W.cell? ⟨w.heap.size+1,1,none⟩=some (.slice none 0 0):=by subst hW;go_simp
 have r02:W.cell? ⟨w.heap.size+1,2,none⟩=some (.slice none 0 0):=by subst hW;go_simp
 have hB:Below w.heap.size w W:=by subst hW;exact (((Below.refl _ _).alloc (by (try simp only [World.size_alloc]);omega) _).alloc (by (try simp only [World.size_alloc]);omega) _)
 have hR0:Row W (w.heap.size+1):=by
  have:=row_new ((w.alloc (.cells #[.bool s,.slice ao n cap,.bool false,.slice ao2 m cap2] 85))) #[.bool false,.slice none 0 0,.slice none 0 0] 27
  try simp only [World.size_alloc] at this
  subst hW;exact this
 have hz:W.heap.size=w.heap.size+1+1:=by subst hW;simp only [World.size_alloc]
 rw [hW]
 clear hW
 have hBW:Below W.heap.size W W:=Below.refl _ _
 refine (HG.out _ (sb hS hB hBW) (sb hS2 hB hBW)).mono ?_
 rintro e w1 ⟨a1,rfl,hg⟩
 have b1:=hg.below
 replace hg:=hg.back hBW
 replace hBW:=hBW.trans (b1.mono hBW.size)
 replace q00:=below_cell b1 q00
 replace q01:=below_cell b1 q01
 replace q02:=below_cell b1 q02
 replace q03:=below_cell b1 q03
 replace r00:=below_cell b1 r00
 replace r01:=below_cell b1 r01
 replace r02:=below_cell b1 r02
 replace hR0:=below_row b1 hR0
 have hsz1:=hBW.size
 have hlt1hR0:=hR0.lt
 have l100:((w1.alloc (.cells #[.bool false,.slice a1 (ln G) (ln G)] 25))).cell? ⟨w1.heap.size,0,none⟩=some (.bool false):=by go_simp
 have l101:((w1.alloc (.cells #[.bool false,.slice a1 (ln G) (ln G)] 25))).cell? ⟨w1.heap.size,1,none⟩=some (.slice a1 (ln G) (ln G)):=by go_simp
 have cb1:Below w1.heap.size w1 ((w1.alloc (.cells #[.bool false,.slice a1 (ln G) (ln G)] 25))):=((Below.refl _ _).alloc (by (try simp only [World.size_alloc]);omega) _)
 replace hBW:=hBW.trans (cb1.mono hBW.size)
 replace q00:=below_cell cb1 q00
 replace q01:=below_cell cb1 q01
 replace q02:=below_cell cb1 q02
 replace q03:=below_cell cb1 q03
 replace r00:=below_cell cb1 r00
 replace r01:=below_cell cb1 r01
 replace r02:=below_cell cb1 r02
 replace hR0:=below_row cb1 hR0
 replace hg:=hg.later cb1
 have hL10:Row ((w1.alloc (.cells #[.bool false,.slice a1 (ln G) (ln G)] 25))) (w1.heap.size):=by
  have:=row_new (w1) #[.bool false,.slice a1 (ln G) (ln G)] 25
  try simp only [World.size_alloc] at this
  exact this
 go_wp2_with fail
 generalize (w1.alloc (.cells #[.bool false,.slice a1 (ln G) (ln G)] 25))=w1x at q00 q01 q02 q03 r00 r01 r02 l100 l101 hR0 hL10 hg hBW cb1 ⊢
 clear cb1
 refine (H1.out _ a1 (sb hS hB hBW) hg.seg).mono ?_
 rintro e w2 ⟨a2,c2,rfl,hq2,hr2⟩
 have b2:=hq2.below
 replace hq2:=hq2.back hBW
 replace hr2:=hr2.back hBW
 replace hBW:=hBW.trans (b2.mono hBW.size)
 replace q00:=below_cell b2 q00
 replace q01:=below_cell b2 q01
 replace q02:=below_cell b2 q02
 replace q03:=below_cell b2 q03
 replace r00:=below_cell b2 r00
 replace r01:=below_cell b2 r01
 replace r02:=below_cell b2 r02
 replace l100:=below_cell b2 l100
 replace l101:=below_cell b2 l101
 replace hR0:=below_row b2 hR0
 replace hL10:=below_row b2 hL10
 replace hg:=hg.later b2
 have hsz2:=hBW.size
 have hlt2hR0:=hR0.lt
 have hlt2hL10:=hL10.lt
 have l200:(((w2.alloc (.cells #[.bool (ng Z),.slice a2 (ln (am Z)) (ln (am Z))] 25)).alloc (.cells #[.bool (ng O),.slice c2 (ln (am O)) (ln (am O))] 25))).cell? ⟨w2.heap.size,0,none⟩=some (.bool (ng Z)):=by go_simp
 have l201:(((w2.alloc (.cells #[.bool (ng Z),.slice a2 (ln (am Z)) (ln (am Z))] 25)).alloc (.cells #[.bool (ng O),.slice c2 (ln (am O)) (ln (am O))] 25))).cell? ⟨w2.heap.size,1,none⟩=some (.slice a2 (ln (am Z)) (ln (am Z))):=by go_simp
 have l210:(((w2.alloc (.cells #[.bool (ng Z),.slice a2 (ln (am Z)) (ln (am Z))] 25)).alloc (.cells #[.bool (ng O),.slice c2 (ln (am O)) (ln (am O))] 25))).cell? ⟨w2.heap.size+1,0,none⟩=some (.bool (ng O)):=by go_simp
 have l211:(((w2.alloc (.cells #[.bool (ng Z),.slice a2 (ln (am Z)) (ln (am Z))] 25)).alloc (.cells #[.bool (ng O),.slice c2 (ln (am O)) (ln (am O))] 25))).cell? ⟨w2.heap.size+1,1,none⟩=some (.slice c2 (ln (am O)) (ln (am O))):=by go_simp
 have cb2:Below w2.heap.size w2 (((w2.alloc (.cells #[.bool (ng Z),.slice a2 (ln (am Z)) (ln (am Z))] 25)).alloc (.cells #[.bool (ng O),.slice c2 (ln (am O)) (ln (am O))] 25))):=(((Below.refl _ _).alloc (by (try simp only [World.size_alloc]);omega) _).alloc (by (try simp only [World.size_alloc]);omega) _)
 replace hBW:=hBW.trans (cb2.mono hBW.size)
 replace q00:=below_cell cb2 q00
 replace q01:=below_cell cb2 q01
 replace q02:=below_cell cb2 q02
 replace q03:=below_cell cb2 q03
 replace r00:=below_cell cb2 r00
 replace r01:=below_cell cb2 r01
 replace r02:=below_cell cb2 r02
 replace l100:=below_cell cb2 l100
 replace l101:=below_cell cb2 l101
 replace hR0:=below_row cb2 hR0
 replace hL10:=below_row cb2 hL10
 replace hg:=hg.later cb2
 replace hq2:=hq2.later cb2
 replace hr2:=hr2.later cb2
 have hL20:Row (((w2.alloc (.cells #[.bool (ng Z),.slice a2 (ln (am Z)) (ln (am Z))] 25)).alloc (.cells #[.bool (ng O),.slice c2 (ln (am O)) (ln (am O))] 25))) (w2.heap.size):=by
  have:=row_new (w2) #[.bool (ng Z),.slice a2 (ln (am Z)) (ln (am Z))] 25
  try simp only [World.size_alloc] at this
  exact (this.alloc _)
 have hL21:Row (((w2.alloc (.cells #[.bool (ng Z),.slice a2 (ln (am Z)) (ln (am Z))] 25)).alloc (.cells #[.bool (ng O),.slice c2 (ln (am O)) (ln (am O))] 25))) (w2.heap.size+1):=by
  have:=row_new ((w2.alloc (.cells #[.bool (ng Z),.slice a2 (ln (am Z)) (ln (am Z))] 25))) #[.bool (ng O),.slice c2 (ln (am O)) (ln (am O))] 25
  try simp only [World.size_alloc] at this
  exact this
 go_wp2_with fail
 generalize ((w2.alloc (.cells #[.bool (ng Z),.slice a2 (ln (am Z)) (ln (am Z))] 25)).alloc (.cells #[.bool (ng O),.slice c2 (ln (am O)) (ln (am O))] 25))=w2x at q00 q01 q02 q03 r00 r01 r02 l100 l101 l200 l201 l210 l211 hR0 hL10 hL20 hL21 hg hq2 hr2 hBW cb2 ⊢
 clear cb2
 refine (H2.out _ a1 (sb hS2 hB hBW) hg.seg).mono ?_
 rintro e w3 ⟨a3,c3,rfl,hq3,hr3⟩
 have b3:=hq3.below
 have hap:=ap_two hq2.seg hq3
 replace hq3:=hq3.back hBW
 replace hr3:=hr3.back hBW
 replace hBW:=hBW.trans (b3.mono hBW.size)
 replace q00:=below_cell b3 q00
 replace q01:=below_cell b3 q01
 replace q02:=below_cell b3 q02
 replace q03:=below_cell b3 q03
 replace r00:=below_cell b3 r00
 replace r01:=below_cell b3 r01
 replace r02:=below_cell b3 r02
 replace l100:=below_cell b3 l100
 replace l101:=below_cell b3 l101
 replace l200:=below_cell b3 l200
 replace l201:=below_cell b3 l201
 replace l210:=below_cell b3 l210
 replace l211:=below_cell b3 l211
 replace hR0:=below_row b3 hR0
 replace hL10:=below_row b3 hL10
 replace hL20:=below_row b3 hL20
 replace hL21:=below_row b3 hL21
 replace hg:=hg.later b3
 replace hq2:=hq2.later b3
 replace hr2:=hr2.later b3
 have hsz3:=hBW.size
 have hlt3hR0:=hR0.lt
 have hlt3hL10:=hL10.lt
 have hlt3hL20:=hL20.lt
 have hlt3hL21:=hL21.lt
 have l300:(((w3.alloc (.cells #[.bool false,.slice a3 (ln Q) (ln Q)] 25)).alloc (.cells #[.bool (ng O),.slice c3 (ln (am O)) (ln (am O))] 25))).cell? ⟨w3.heap.size,0,none⟩=some (.bool false):=by go_simp
 have l301:(((w3.alloc (.cells #[.bool false,.slice a3 (ln Q) (ln Q)] 25)).alloc (.cells #[.bool (ng O),.slice c3 (ln (am O)) (ln (am O))] 25))).cell? ⟨w3.heap.size,1,none⟩=some (.slice a3 (ln Q) (ln Q)):=by go_simp
 have l310:(((w3.alloc (.cells #[.bool false,.slice a3 (ln Q) (ln Q)] 25)).alloc (.cells #[.bool (ng O),.slice c3 (ln (am O)) (ln (am O))] 25))).cell? ⟨w3.heap.size+1,0,none⟩=some (.bool (ng O)):=by go_simp
 have l311:(((w3.alloc (.cells #[.bool false,.slice a3 (ln Q) (ln Q)] 25)).alloc (.cells #[.bool (ng O),.slice c3 (ln (am O)) (ln (am O))] 25))).cell? ⟨w3.heap.size+1,1,none⟩=some (.slice c3 (ln (am O)) (ln (am O))):=by go_simp
 have cb3:Below w3.heap.size w3 (((w3.alloc (.cells #[.bool false,.slice a3 (ln Q) (ln Q)] 25)).alloc (.cells #[.bool (ng O),.slice c3 (ln (am O)) (ln (am O))] 25))):=(((Below.refl _ _).alloc (by (try simp only [World.size_alloc]);omega) _).alloc (by (try simp only [World.size_alloc]);omega) _)
 replace hBW:=hBW.trans (cb3.mono hBW.size)
 replace q00:=below_cell cb3 q00
 replace q01:=below_cell cb3 q01
 replace q02:=below_cell cb3 q02
 replace q03:=below_cell cb3 q03
 replace r00:=below_cell cb3 r00
 replace r01:=below_cell cb3 r01
 replace r02:=below_cell cb3 r02
 replace l100:=below_cell cb3 l100
 replace l101:=below_cell cb3 l101
 replace l200:=below_cell cb3 l200
 replace l201:=below_cell cb3 l201
 replace l210:=below_cell cb3 l210
 replace l211:=below_cell cb3 l211
 replace hR0:=below_row cb3 hR0
 replace hL10:=below_row cb3 hL10
 replace hL20:=below_row cb3 hL20
 replace hL21:=below_row cb3 hL21
 replace hg:=hg.later cb3
 replace hq2:=hq2.later cb3
 replace hr2:=hr2.later cb3
 replace hq3:=hq3.later cb3
 replace hr3:=hr3.later cb3
 have hL30:Row (((w3.alloc (.cells #[.bool false,.slice a3 (ln Q) (ln Q)] 25)).alloc (.cells #[.bool (ng O),.slice c3 (ln (am O)) (ln (am O))] 25))) (w3.heap.size):=by
  have:=row_new (w3) #[.bool false,.slice a3 (ln Q) (ln Q)] 25
  try simp only [World.size_alloc] at this
  exact (this.alloc _)
 have hL31:Row (((w3.alloc (.cells #[.bool false,.slice a3 (ln Q) (ln Q)] 25)).alloc (.cells #[.bool (ng O),.slice c3 (ln (am O)) (ln (am O))] 25))) (w3.heap.size+1):=by
  have:=row_new ((w3.alloc (.cells #[.bool false,.slice a3 (ln Q) (ln Q)] 25))) #[.bool (ng O),.slice c3 (ln (am O)) (ln (am O))] 25
  try simp only [World.size_alloc] at this
  exact this
 clear cb3
 have fz0:=fun o=>hR0.frozen o
 go_wp2
 all_goals refine bodyPost_ret (v:=.agg #[.bool (ng Z),.slice a2 (ln (am Z)) (ln (am Z)),.slice a3 (ln Q) (ln Q)]) (by rw [results_cell rfl];go_simp) rfl ?_
 all_goals exact ⟨a2,a3,rfl,hq2.mid hB (((((Mid.refl _ _ _).set _ _ (by omega) (by omega) _).set _ _ (by omega) (by omega) _).set _ _ (by omega) (by omega) _)),hq3.mid hB (((((Mid.refl _ _ _).set _ _ (by omega) (by omega) _).set _ _ (by omega) (by omega) _).set _ _ (by omega) (by omega) _)),hap⟩
theorem lowest_ap (s:Bool) (ao:Option Addr) (n cap X:Nat) (ao2:Option Addr) (m cap2 Y V:Nat) (Z:Int) (w:World) (hc:n≤cap) (hm:n≤70368744177660) (hS:Seg w ao X n) (hc2:m≤cap2) (hm2:m≤70368744177660) (hS2:Seg w ao2 Y m) (hL:Low (sg s X) (Y:Int) Z V) :
  Calls Tryz.prog 75 #[.agg #[.bool s,.slice ao n cap,.bool false,.slice ao2 m cap2]] w fun e w'=>∃ p q,e=.returned (.agg #[.bool (ng Z),.slice p (ln (am Z)) (ln (am Z)),.slice q (ln V) (ln V)])∧New w w' p (am Z) (ln (am Z))∧New w w' q V (ln V)∧Ap p (ln (am Z)) q (ln V):=by
 have hY:Y≠0:=by have:=hL.ne;omega
 obtain ⟨P,Q,hP,hQ⟩:=gcd_parts X Y
 have h:=low_made s false hY rfl hP hQ
 simp only [Bool.false_eq_true,if_false] at h
 obtain ⟨rfl,rfl⟩:=hL.uniq h rfl
 exact lowestp_ap s ao n cap X ao2 m cap2 Y P V _ w hc hm hS hc2 hm2 hS2 hY hP hQ rfl
set_option maxHeartbeats 4000000 in
set_option maxRecDepth 100000 in
theorem qNorm_ap (s0:Bool) (a0:Option Addr) (n0 c0 X0:Nat) (b0:Option Addr) (m0 d0 Y0:Nat) (Z:Int) (V:Nat) (w:World) (hc0:n0≤c0) (hm0:n0≤70368744177000) (hS0:Seg w a0 X0 n0) (hd0:m0≤d0) (hk0:m0≤70368744177000) (hT0:Seg w b0 Y0 m0) (hL:Low (rn s0 X0 Y0) (rd Y0:Nat) Z V) :
  Calls Tryz.prog 53 #[Value.agg #[Value.bool s0,Value.slice a0 n0 c0,Value.slice b0 m0 d0]] w fun e w'=>∃ p q,e=.returned (.agg #[.bool (ng Z),.slice p (ln (am Z)) (ln (am Z)),.slice q (ln V) (ln V)])∧New w w' p (am Z) (ln (am Z))∧New w w' q V (ln V)∧Ap p (ln (am Z)) q (ln V):=by
 have HL:=hide' hL
 clear hL
 go_enter Tryz.func53,Tryz.ntmps53
 go_wp2_with fail
 obtain ⟨W,hW⟩:∃ W,((w.alloc (.cells #[.bool s0,.slice a0 n0 c0,.slice b0 m0 d0] 27)).alloc (.cells #[.bool false,.slice none 0 0,.slice none 0 0] 27))=W:=⟨_,rfl⟩
 have q00:W.cell? ⟨w.heap.size,0,none⟩=some (.bool s0):=by subst hW;go_simp
 have q01:W.cell? ⟨w.heap.size,1,none⟩=some (.slice a0 n0 c0):=by subst hW;go_simp
 have q02:W.cell? ⟨w.heap.size,2,none⟩=some (.slice b0 m0 d0):=by subst hW;go_simp
 have r00:W.cell? ⟨w.heap.size+1,0,none⟩=some (.bool false):=by subst hW;go_simp
 have r01:W.cell? ⟨w.heap.size+1,1,none⟩=some (.slice none 0 0):=by subst hW;go_simp
 have r02:W.cell? ⟨w.heap.size+1,2,none⟩=some (.slice none 0 0):=by subst hW;go_simp
 have hB:Below w.heap.size w W:=by subst hW;exact (((Below.refl _ _).alloc (by (try simp only [World.size_alloc]);omega) _).alloc (by (try simp only [World.size_alloc]);omega) _)
 have hR0:Row W (w.heap.size+1):=by
  have:=row_new ((w.alloc (.cells #[.bool s0,.slice a0 n0 c0,.slice b0 m0 d0] 27))) #[.bool false,.slice none 0 0,.slice none 0 0] 27
  try simp only [World.size_alloc] at this
  subst hW;exact this
 have hz:W.heap.size=w.heap.size+1+1:=by subst hW;simp only [World.size_alloc]
 rw [hW]
 clear hW
 have hBW:Below W.heap.size W W:=Below.refl _ _
 go_wp2_with fail
 refine (read_is s0 a0 n0 c0 X0 b0 m0 d0 Y0 70368744177000 _ hc0 hm0 (sb hS0 hB hBW) hd0 hk0 (sb hT0 hB hBW) (by omega) (by omega)).mono ?_
 rintro e w41 ⟨zs41,zp41,zn41,zc41,zX41,zq41,zm41,zd41,rfl,ga41,gb41,gc41,gd41,kS41,kT41,ge41,bb41⟩
 have b41:=bb41
 replace hBW:=hBW.trans (b41.mono hBW.size)
 replace q00:=below_cell b41 q00
 replace q01:=below_cell b41 q01
 replace q02:=below_cell b41 q02
 replace r00:=below_cell b41 r00
 replace r01:=below_cell b41 r01
 replace r02:=below_cell b41 r02
 replace hR0:=below_row b41 hR0
 go_wp2_with fail
 refine (lowest_ap zs41 zp41 zn41 zc41 zX41 zq41 zm41 zd41 (rd Y0) V Z _ ga41 (by omega) kS41 gc41 (by omega) kT41 (by rw [ge41];exact HL.out)).mono ?_
 rintro e w42 ⟨p42,q42,rfl,hp42,hq42,hap42⟩
 have b42:=hp42.below
 replace hp42:=hp42.back hBW
 replace hq42:=hq42.back hBW
 replace hBW:=hBW.trans (b42.mono hBW.size)
 replace q00:=below_cell b42 q00
 replace q01:=below_cell b42 q01
 replace q02:=below_cell b42 q02
 replace r00:=below_cell b42 r00
 replace r01:=below_cell b42 r01
 replace r02:=below_cell b42 r02
 replace hR0:=below_row b42 hR0
 replace kS41:=kS41.later b42
 replace kT41:=kT41.later b42
 have fz0:=fun o=>hR0.frozen o
 go_wp2
 all_goals refine bodyPost_ret (v:=Value.agg #[Value.bool (ng Z),Value.slice p42 (ln (am Z)) (ln (am Z)),Value.slice q42 (ln V) (ln V)]) (by rw [results_cell rfl];go_simp) rfl ?_
 all_goals exact ⟨p42,q42,rfl,hp42.mid hB (((((Mid.refl _ _ _).set _ _ (by omega) (by omega) _).set _ _ (by omega) (by omega) _).set _ _ (by omega) (by omega) _)),hq42.mid hB (((((Mid.refl _ _ _).set _ _ (by omega) (by omega) _).set _ _ (by omega) (by omega) _).set _ _ (by omega) (by omega) _)),hap42⟩
end Go.Proofs.YtfppjaoddicgpaaGreatDoor
