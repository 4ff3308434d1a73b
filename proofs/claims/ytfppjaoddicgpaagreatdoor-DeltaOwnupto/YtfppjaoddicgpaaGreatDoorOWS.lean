import Derived.Test.YtfppjaoddicgpaaGreatDoorOWE
import Derived.Test.YtfppjaoddicgpaaGreatDoorWG3
set_option linter.unusedSimpArgs false
namespace Go.Proofs.YtfppjaoddicgpaaGreatDoor
open Go.RowKit
set_option linter.unusedVariables false
def Ow (lo:Nat) (W:World) (S:Rat) (p q:Option Addr):Prop:=(nR S p q).ok W∧(0 < ln (am S.num)→∃ b off,p=some ⟨b,off,none⟩∧lo≤b∧Row W b)∧(0 < ln S.den→∃ b off,q=some ⟨b,off,none⟩∧lo≤b∧Row W b)∧Ap p (ln (am S.num)) q (ln S.den)
theorem Ow.on {lo:Nat} {W W':World} {S:Rat} {p q:Option Addr} (h:Ow lo W S p q) (hb:Below W.heap.size W W'):Ow lo W' S p q :=
 ⟨h.1.on hb,fun hn=>by obtain ⟨b,off,e,h1,h2⟩:=h.2.1 hn;exact ⟨b,off,e,h1,below_row hb h2⟩,fun hn=>by obtain ⟨b,off,e,h1,h2⟩:=h.2.2.1 hn;exact ⟨b,off,e,h1,below_row hb h2⟩,h.2.2.2⟩
theorem Ow.mono {lo lo':Nat} {W:World} {S:Rat} {p q:Option Addr} (h:Ow lo W S p q) (hl:lo'≤lo):Ow lo' W S p q :=
 ⟨h.1,fun hn=>by obtain ⟨b,off,e,h1,h2⟩:=h.2.1 hn;exact ⟨b,off,e,Nat.le_trans hl h1,h2⟩,fun hn=>by obtain ⟨b,off,e,h1,h2⟩:=h.2.2.1 hn;exact ⟨b,off,e,Nat.le_trans hl h1,h2⟩,h.2.2.2⟩
theorem Ow.put {lo c:Nat} {W:World} {S:Rat} {p q:Option Addr} {u0 u1 u2 z0 z1 z2:Value} (h:Ow lo W S p q) (hT:Thr W c z0 z1 z2) (k0:∀ i,z0≠.int .u32 i) (k1:∀ i,z1≠.int .u32 i) (k2:∀ i,z2≠.int .u32 i):Ow lo (set3 W c u0 u1 u2) S p q :=
 ⟨⟨hT.seg k0 k1 k2 h.1.1,h.1.2.1,h.1.2.2.1,hT.seg k0 k1 k2 h.1.2.2.2.1,h.1.2.2.2.2.1,h.1.2.2.2.2.2⟩,fun hn=>by obtain ⟨b,off,e,h1,h2⟩:=h.2.1 hn;exact ⟨b,off,e,h1,((h2.setCell _ _).setCell _ _).setCell _ _⟩,fun hn=>by obtain ⟨b,off,e,h1,h2⟩:=h.2.2.1 hn;exact ⟨b,off,e,h1,((h2.setCell _ _).setCell _ _).setCell _ _⟩,h.2.2.2⟩
theorem Ow.of {w w':World} {S:Rat} {p q:Option Addr} (hs:sz 100000000 S) (h1:New w w' p (am S.num) (ln (am S.num))) (h2:New w w' q S.den (ln S.den)) (ha:Ap p (ln (am S.num)) q (ln S.den)):Ow w.heap.size w' S p q:=⟨ok_nR hs h1 h2,h1.fresh,h2.fresh,ha⟩
theorem Ow.news {w W:World} {S:Rat} {p q:Option Addr} (h:Ow w.heap.size W S p q) (hb:Below w.heap.size w W):New w W p (am S.num) (ln (am S.num))∧New w W q S.den (ln S.den):=⟨⟨h.1.1,hb,h.2.1⟩,⟨h.1.2.2.2.1,hb,h.2.2.1⟩⟩
def QO (w:World) (r:Rat) (e:Ending) (w':World):Prop:=∃ p q,e=.returned (.agg #[.bool (ng r.num),.slice p (ln (am r.num)) (ln (am r.num)),.slice q (ln r.den) (ln r.den)])∧Below w.heap.size w w'∧Ow w.heap.size w' r p q
set_option maxHeartbeats 2000000 in
theorem qWhole_ap (z:Int) (w:World) (h1:-9223372036854775808≤z) (h2:z≤9223372036854775807) :
  Calls Tryz.prog 47 #[.int .i64 z] w fun e w'=>∃ p q,e=.returned (.agg #[.bool (ng z),.slice p (ln (am z)) (ln (am z)),.slice q (ln 1) (ln 1)])∧New w w' p (am z) (ln (am z))∧New w w' q 1 (ln 1)∧Ap p (ln (am z)) q (ln 1):=by
 have lz:ln (am z)≤2:=ln_le_of_lt (by rw [BB2];unfold am;omega)
 have l1:ln 1≤2:=by rw [ln_one];omega
 have H0:=hide' (fun w'=>wOf_is z w' h1 h2)
 obtain ⟨V,hV⟩:∃ V:Nat,1=V:=⟨_,rfl⟩
 have hL:Low (sg (ng z) (am z)) (V:Int) z V:=by rw [sg_na,←hV];exact Low.self (by omega) (by simp)
 have H1':=fun w'=>wOf_is 1 w' (by omega) (by omega)
 rw [show ng 1=false from rfl,show am 1=1 from rfl] at H1'
 rw [hV] at l1
 have H1:∀ w',Calls Tryz.prog 76 #[.int .i64 1] w' fun e w''=>∃ ao',e=.returned (.agg #[.bool false,.slice ao' (ln V) (ln V)])∧New w' w'' ao' V (ln V):=by rw [←hV];exact H1'
 have G1:=hide' H1
 have H2:=hide' (fun w' p q k1 k2=>lowest_ap (ng z) p (ln (am z)) (ln (am z)) (am z) q (ln V) (ln V) V V z w' (Nat.le_refl _) (by omega) k1 (Nat.le_refl _) (by omega) k2 hL)
 rw [show ln 1=ln V by rw [hV]]
 have e1:∀ w' q,New w w' q 1 (ln V)↔New w w' q V (ln V):=fun w' q=>by rw [←hV]
 simp only [e1]
 clear H1' H1 hL hV h1 h2 e1
 go_enter Tryz.func47,Tryz.ntmps47
 go_wp2_with fail
 obtain ⟨W,hW⟩:∃ W,(w.alloc (.cells #[.bool false,.slice none 0 0,.slice none 0 0] 27))=W:=⟨_,rfl⟩
 have r00:W.cell? ⟨w.heap.size,0,none⟩=some (.bool false):=by subst hW;go_simp
 have r01:W.cell? ⟨w.heap.size,1,none⟩=some (.slice none 0 0):=by subst hW;go_simp
 have r02:W.cell? ⟨w.heap.size,2,none⟩=some (.slice none 0 0):=by subst hW;go_simp
 have hB:Below w.heap.size w W:=by subst hW;exact ((Below.refl _ _).alloc (by (try simp only [World.size_alloc]);omega) _)
 have hR0:Row W (w.heap.size):=by
  have:=row_new (w) #[.bool false,.slice none 0 0,.slice none 0 0] 27
  try simp only [World.size_alloc] at this
  subst hW;exact this
 have hz:W.heap.size=w.heap.size+1:=by subst hW;simp only [World.size_alloc]
 rw [hW]
 clear hW
 have hBW:Below W.heap.size W W:=Below.refl _ _
 refine (H0.out _).mono ?_
 rintro e w1 ⟨a1,rfl,h1⟩
 have b1:=h1.below
 replace h1:=h1.back hBW
 replace hBW:=hBW.trans (b1.mono hBW.size)
 replace r00:=below_cell b1 r00
 replace r01:=below_cell b1 r01
 replace r02:=below_cell b1 r02
 replace hR0:=below_row b1 hR0
 go_wp2_with fail
 refine (G1.out _).mono ?_
 rintro e w2 ⟨a2,rfl,h2⟩
 have b2:=h2.below
 replace h2:=h2.back hBW
 replace hBW:=hBW.trans (b2.mono hBW.size)
 replace r00:=below_cell b2 r00
 replace r01:=below_cell b2 r01
 replace r02:=below_cell b2 r02
 replace hR0:=below_row b2 hR0
 replace h1:=h1.later b2
 go_wp2_with fail
 refine (H2.out _ a1 a2 h1.seg h2.seg).mono ?_
 rintro e w3 ⟨p3,q3,rfl,hp3,hq3,hap3⟩
 have b3:=hp3.below
 replace hp3:=hp3.back hBW
 replace hq3:=hq3.back hBW
 replace hBW:=hBW.trans (b3.mono hBW.size)
 replace r00:=below_cell b3 r00
 replace r01:=below_cell b3 r01
 replace r02:=below_cell b3 r02
 replace hR0:=below_row b3 hR0
 replace h1:=h1.later b3
 replace h2:=h2.later b3
 have fz0:=fun o=>hR0.frozen o
 go_wp2
 all_goals refine bodyPost_ret (v:=Value.agg #[Value.bool (ng z),Value.slice p3 (ln (am z)) (ln (am z)),Value.slice q3 (ln V) (ln V)]) (by rw [results_cell rfl];go_simp) rfl ?_
 all_goals exact ⟨p3,q3,rfl,hp3.mid hB (((((Mid.refl _ _ _).set _ _ (by omega) (by omega) _).set _ _ (by omega) (by omega) _).set _ _ (by omega) (by omega) _)),hq3.mid hB (((((Mid.refl _ _ _).set _ _ (by omega) (by omega) _).set _ _ (by omega) (by omega) _).set _ _ (by omega) (by omega) _)),hap3⟩
theorem wholeO1 (w:World):Calls Tryz.prog 47 #[.int .i64 1] w (QO w 1):=by
 refine (qWhole_ap 1 w (by omega) (by omega)).mono ?_
 rintro e w1 ⟨p,q,rfl,n1,n2,ha⟩
 exact ⟨p,q,rfl,n1.below,Ow.of (one_sz.mono (by omega)) n1 n2 ha⟩
theorem divO (A B:RatV) (S:Rat) (w:World) (hA:A.ok w) (hB:B.ok w) (hn:A.n≤100000000∧A.m≤100000000∧B.n≤100000000∧B.m≤100000000) (h0:B.val≠0) (hS:A.val / B.val=S) (hz:sz 100000000 S):Calls Tryz.prog 77 #[.agg #[.bool A.s,.slice A.a A.n A.c,.slice A.b A.m A.e],.agg #[.bool B.s,.slice B.a B.n B.c,.slice B.b B.m B.e]] w fun e w1=>∃ p q,e=.returned (.tuple #[.agg #[.bool (ng S.num),.slice p (ln (am S.num)) (ln (am S.num)),.slice q (ln S.den) (ln S.den)],.int .i64 0])∧Below w.heap.size w w1∧Ow w.heap.size w1 S p q:=by
 subst hS
 refine (qDiv_ap A.s A.a A.n A.c A.X A.b A.m A.e A.Y B.s B.a B.n B.c B.X B.b B.m B.e B.Y _ _ w hA.2.1 (by omega) hA.1 hA.2.2.2.2.1 (by omega) hA.2.2.2.1 hB.2.1 (by omega) hB.1 hB.2.2.2.2.1 (by omega) hB.2.2.2.1 (low_divY A B h0)).mono ?_
 rintro e w1 ⟨p,q,rfl,n1,n2,ha⟩
 exact ⟨p,q,rfl,n1.below,Ow.of hz n1 n2 ha⟩
set_option maxHeartbeats 4000000 in
set_option maxRecDepth 100000 in
theorem shut_ow (g:GapV) (w:World) (hg:g.ok w) (hk:g.tiny) (hn:nar g.val):Calls Tryz.prog 51 #[.agg #[.bool g.lo.a.s,.slice g.lo.a.a g.lo.a.n g.lo.a.c,.slice g.lo.a.b g.lo.a.m g.lo.a.e,.bool g.lo.b.s,.slice g.lo.b.a g.lo.b.n g.lo.b.c,.slice g.lo.b.b g.lo.b.m g.lo.b.e,.bool g.hi.a.s,.slice g.hi.a.a g.hi.a.n g.hi.a.c,.slice g.hi.a.b g.hi.a.m g.hi.a.e,.bool g.hi.b.s,.slice g.hi.b.a g.hi.b.n g.hi.b.c,.slice g.hi.b.b g.hi.b.m g.hi.b.e]] w (QO w (shutR g.val)):=by
 have G1:=hide' (fun w' (hb:Below w.heap.size w w')=>subDq g.hi g.lo w' (hg.2.on hb) (hg.1.on hb) hk.2 hk.1)
 obtain ⟨a1,a2⟩:=tiny_sz hg.1 hk.1
 obtain ⟨c1,c2⟩:=tiny_sz hg.2 hk.2
 have s1:sz 8388622 (g.hi.a.val - g.lo.a.val):=(sz_subG c1 a1).mono (by omega)
 have s2:sz 8388622 (g.hi.b.val - g.lo.b.val):=(sz_subG c2 a2).mono (by omega)
 have s3:=shut_sz hg hk hn
 have h0:-(g.hi.b.val - g.lo.b.val)≠0:=by unfold nar GapV.val DelV.val at hn;simp only at hn;grind
 have hE:(g.hi.a.val - g.lo.a.val) / -(g.hi.b.val - g.lo.b.val)=shutR g.val:=by unfold shutR GapV.val DelV.val;simp only;rw [Rat.neg_sub]
 obtain ⟨S,hS⟩:∃ S,shutR g.val=S:=⟨_,rfl⟩
 rw [hS] at s3 hE ⊢
 clear hS
 obtain ⟨x,hx⟩:∃ x,g.hi.a.val - g.lo.a.val=x:=⟨_,rfl⟩
 obtain ⟨y,hy⟩:∃ y,g.hi.b.val - g.lo.b.val=y:=⟨_,rfl⟩
 rw [hx,hy] at G1
 rw [hx] at s1 hE
 rw [hy] at s2 h0 hE
 clear hx hy hg hk hn a1 a2 c1 c2
 have G2:=hide' (fun w' p q (k:(nR y p q).ok w')=>negQ (nR y p q) (-y) w' k ⟨Nat.le_trans s2.1 (by omega),Nat.le_trans s2.2 (by omega)⟩ (by rw [nR_val]) ((sz_negY s2).mono (by omega)))
 have G3:=hide' (fun w' p q p1 q1 (k:(nR x p q).ok w') (k1:(nR (-y) p1 q1).ok w')=>divO (nR x p q) (nR (-y) p1 q1) S w' k k1 ⟨Nat.le_trans s1.1 (by omega),Nat.le_trans s1.2 (by omega),Nat.le_trans (sz_negY s2).1 (by omega),Nat.le_trans (sz_negY s2).2 (by omega)⟩ (by rw [nR_val];exact h0) (by rw [nR_val,nR_val];exact hE) (s3.mono (by omega)))
 obtain ⟨z,hz⟩:∃ z,-y=z:=⟨_,rfl⟩
 rw [hz] at G2 G3
 clear s1 s2 s3 h0 hE hz
 go_enter Tryz.func51,Tryz.ntmps51
 go_wp2_with fail
 obtain ⟨wA,hwA⟩:∃ wA,(w.alloc (.cells #[.bool g.lo.a.s,.slice g.lo.a.a g.lo.a.n g.lo.a.c,.slice g.lo.a.b g.lo.a.m g.lo.a.e,.bool g.lo.b.s,.slice g.lo.b.a g.lo.b.n g.lo.b.c,.slice g.lo.b.b g.lo.b.m g.lo.b.e,.bool g.hi.a.s,.slice g.hi.a.a g.hi.a.n g.hi.a.c,.slice g.hi.a.b g.hi.a.m g.hi.a.e,.bool g.hi.b.s,.slice g.hi.b.a g.hi.b.n g.hi.b.c,.slice g.hi.b.b g.hi.b.m g.hi.b.e] 48)).alloc (.cells #[.bool false,.slice none 0 0,.slice none 0 0] 27)=wA:=⟨_,rfl⟩
 have hB:Below w.heap.size w wA:=by subst hwA;exact (below_alloc _).trans ((below_alloc _).mono (below_alloc _).size)
 have rA:Thr wA (w.heap.size+1) (.bool false) (.slice none 0 0) (.slice none 0 0):=by
  subst hwA
  refine ⟨⟨by go_simp,by go_simp,by go_simp⟩,?_⟩
  have h:=row_new (w.alloc (.cells #[.bool g.lo.a.s,.slice g.lo.a.a g.lo.a.n g.lo.a.c,.slice g.lo.a.b g.lo.a.m g.lo.a.e,.bool g.lo.b.s,.slice g.lo.b.a g.lo.b.n g.lo.b.c,.slice g.lo.b.b g.lo.b.m g.lo.b.e,.bool g.hi.a.s,.slice g.hi.a.a g.hi.a.n g.hi.a.c,.slice g.hi.a.b g.hi.a.m g.hi.a.e,.bool g.hi.b.s,.slice g.hi.b.a g.hi.b.n g.hi.b.c,.slice g.hi.b.b g.hi.b.m g.hi.b.e] 48)) #[.bool false,.slice none 0 0,.slice none 0 0] 27
  rw [World.size_alloc] at h
  exact h
 rw [hwA]
 clear hwA
 refine (G1.out _ hB).mono ?_
 rintro e w1 ⟨p1,q1,p2,q2,rfl,b1,k1⟩
 replace rA:=rA.later b1
 replace hB:=hB.trans (b1.mono hB.size)
 clear b1 G1
 have hX:(nR x p1 q1).ok w1:=k1.1
 have hY:(nR y p2 q2).ok w1:=k1.2
 clear k1
 obtain ⟨wC,hwC⟩:∃ wC,w1.alloc (.cells #[.bool (ng x.num),.slice p1 (ln (am x.num)) (ln (am x.num)),.slice q1 (ln x.den) (ln x.den),.bool (ng y.num),.slice p2 (ln (am y.num)) (ln (am y.num)),.slice q2 (ln y.den) (ln y.den)] 29)=wC:=⟨_,rfl⟩
 have bC:Below w1.heap.size w1 wC:=by subst hwC;exact below_alloc _
 have y0:wC.cell? ⟨w1.heap.size,0,none⟩=some (.bool (ng x.num)):=by subst hwC;go_simp
 have y1:wC.cell? ⟨w1.heap.size,1,none⟩=some (.slice p1 (ln (am x.num)) (ln (am x.num))):=by subst hwC;go_simp
 have y2:wC.cell? ⟨w1.heap.size,2,none⟩=some (.slice q1 (ln x.den) (ln x.den)):=by subst hwC;go_simp
 have y3:wC.cell? ⟨w1.heap.size,3,none⟩=some (.bool (ng y.num)):=by subst hwC;go_simp
 have y4:wC.cell? ⟨w1.heap.size,4,none⟩=some (.slice p2 (ln (am y.num)) (ln (am y.num))):=by subst hwC;go_simp
 have y5:wC.cell? ⟨w1.heap.size,5,none⟩=some (.slice q2 (ln y.den) (ln y.den)):=by subst hwC;go_simp
 replace rA:=rA.later bC
 replace hB:=hB.trans (bC.mono hB.size)
 replace hX:=hX.on bC
 replace hY:=hY.on bC
 clear bC
 go_upto_region 2 with fail
 clear hwC
 obtain ⟨cS,hcS⟩:∃ c,w1.heap.size=c:=⟨_,rfl⟩
 rw [hcS] at y0 y1 y2 y3 y4 y5 ⊢
 clear hcS
 go_cut [4,5] from 11 to 19 (fun s4 s5 wx=>∃ wh9 c p q,wh9=wx∧s4=.pointer (some ⟨c,0,none⟩)∧s5=.int .i64 0∧Thr wx c (.bool (ng S.num)) (.slice p (ln (am S.num)) (ln (am S.num))) (.slice q (ln S.den) (ln S.den))∧Below wC.heap.size wC wx∧Ow wC.heap.size wx S p q)
 case first =>
  have bT:Below wC.heap.size wC wC:=Below.refl _ _
  have hhl:cS < wC.heap.size:=World.block_lt_of_cell? wC ⟨cS,0,none⟩ y0
  have bD:Below wC.heap.size wC wC.drew:=(Below.refl _ _).drew
  have ky0:=below_cell bD y0
  have ky1:=below_cell bD y1
  have ky2:=below_cell bD y2
  have ky3:=below_cell bD y3
  have ky4:=below_cell bD y4
  have ky5:=below_cell bD y5
  replace bT:=bT.trans (bD.mono bT.size)
  refine wp_region_held_drew (S:=fun w'=>w'.cell? ⟨cS,0,none⟩=some (.bool (ng x.num))∧w'.cell? ⟨cS,1,none⟩=some (.slice p1 (ln (am x.num)) (ln (am x.num)))∧w'.cell? ⟨cS,2,none⟩=some (.slice q1 (ln x.den) (ln x.den))∧w'.cell? ⟨cS,3,none⟩=some (.bool (ng y.num))∧w'.cell? ⟨cS,4,none⟩=some (.slice p2 (ln (am y.num)) (ln (am y.num)))∧w'.cell? ⟨cS,5,none⟩=some (.slice q2 (ln y.den) (ln y.den))) (by kernel_rfl) ⟨ky0,ky1,ky2,ky3,ky4,ky5⟩ (fun hHeld=>?_)
  clear ky0 ky1 ky2 ky3 ky4 ky5
  generalize wC.drew=wF0 at bD bT hHeld ⊢
  replace hX:=hX.on bD
  replace hY:=hY.on bD
  clear bD y0 y1 y2 y3 y4 y5
  refine tk 0 (v:=?_) rfl (Or.inl ⟨by rfl,?_⟩) ?_
  rotate_left
  ·intro w9 hSw
   go_simp
   first | done | with_reducible rfl
  simp only [pP,pN,pS,pZ,pC]
  refine tk 1 (v:=?_) rfl (Or.inl ⟨by rfl,?_⟩) ?_
  rotate_left
  ·intro w9 hSw
   go_simp
   first | done | with_reducible rfl
  simp only [pP,pN,pS,pZ,pC]
  refine tk 2 (v:=?_) rfl (Or.inl ⟨by rfl,?_⟩) ?_
  rotate_left
  ·intro w9 hSw
   go_simp
   first | done | with_reducible rfl
  simp only [pP,pN,pS,pZ,pC]
  refine tk 3 (v:=?_) rfl (Or.inl ⟨by rfl,?_⟩) ?_
  rotate_left
  ·intro w9 hSw
   go_simp
   first | done | with_reducible rfl
  simp only [pP,pN,pS,pZ,pC]
  refine wpAnyH_ready (rs:=[4,9]) (by kernel_rfl) (by simp) ?_
  refine consT rfl (fun KK hKK=>?_) ?_
  ·skip
   go_simp
   refine (G2.out _ p2 q2 hY).mono ?_
   rintro e wF1 ⟨p3,q3,rfl,bV,hZ⟩
   replace bT:=bT.trans (bV.mono bT.size)
   replace hHeld:=(⟨below_cell bV hHeld.1,below_cell bV hHeld.2.1,below_cell bV hHeld.2.2.1,below_cell bV hHeld.2.2.2.1,below_cell bV hHeld.2.2.2.2.1,below_cell bV hHeld.2.2.2.2.2⟩:_∧_∧_∧_∧_∧_)
   replace hX:=hX.on bV
   replace hY:=hY.on bV
   clear bV
   go_wp2_with fail
   refine hKK.out _ _ hHeld ?_
   clear hHeld
   intro hHeld
   clear hKK KK
   try simp only [pP,pN,pS,pZ,pC]
   refine wpAnyH_ready (rs:=[5,9]) (by kernel_rfl) (by simp) ?_
   refine consT rfl (fun KK hKK=>?_) ?_
   ·skip
    have h99:=bT.size
    go_simp
    refine (G3.out _ p1 q1 p3 q3 hX hZ).mono ?_
    rintro e wF2 ⟨p,q,rfl,bV,hS⟩
    replace hS:=hS.mono h99
    clear h99
    replace bT:=bT.trans (bV.mono bT.size)
    replace hHeld:=(⟨below_cell bV hHeld.1,below_cell bV hHeld.2.1,below_cell bV hHeld.2.2.1,below_cell bV hHeld.2.2.2.1,below_cell bV hHeld.2.2.2.2.1,below_cell bV hHeld.2.2.2.2.2⟩:_∧_∧_∧_∧_∧_)
    replace hX:=hX.on bV
    replace hY:=hY.on bV
    replace hZ:=hZ.on bV
    clear bV
    go_wp2_with fail
    refine hKK.out _ _ hHeld ?_
    clear hHeld
    intro hHeld
    clear hKK KK
    try simp only [pP,pN,pS,pZ,pC]
    refine tk 6 (v:=?_) rfl (Or.inl ⟨by rfl,?_⟩) ?_
    rotate_left
    ·intro w9 hSw
     go_simp
     first | done | with_reducible rfl
    simp only [pP,pN,pS,pZ,pC]
    refine tk 7 (v:=?_) rfl (Or.inl ⟨by rfl,?_⟩) ?_
    rotate_left
    ·intro w9 hSw
     go_simp
     first | done | with_reducible rfl
    simp only [pP,pN,pS,pZ,pC]
    refine tk 8 (v:=?_) rfl (Or.inl ⟨by rfl,?_⟩) ?_
    rotate_left
    ·intro w9 hSw
     go_simp
     first | done | with_reducible rfl
    simp only [pP,pN,pS,pZ,pC]
    refine wpAnyH_ready (rs:=[9]) (by kernel_rfl) (by simp) ?_
    refine cons' rfl (fun KK hKK=>?_)
    go_simp
    have vN:Thr (wF2.alloc (.cells #[.bool false,.slice none 0 0,.slice none 0 0] 27)) wF2.heap.size (.bool false) (.slice none 0 0) (.slice none 0 0):=⟨⟨by go_simp,by go_simp,by go_simp⟩,row_new wF2 _ 27⟩
    have bA:=below_alloc (w:=wF2) (.cells #[.bool false,.slice none 0 0,.slice none 0 0] 27)
    have hc9:wC.heap.size≤wF2.heap.size:=bT.size
    generalize wF2.alloc (.cells #[.bool false,.slice none 0 0,.slice none 0 0] 27)=wF3 at vN bA ⊢
    replace bT:=bT.trans (bA.mono bT.size)
    replace hHeld:=(⟨below_cell bA hHeld.1,below_cell bA hHeld.2.1,below_cell bA hHeld.2.2.1,below_cell bA hHeld.2.2.2.1,below_cell bA hHeld.2.2.2.2.1,below_cell bA hHeld.2.2.2.2.2⟩:_∧_∧_∧_∧_∧_)
    replace hX:=hX.on bA
    replace hY:=hY.on bA
    replace hZ:=hZ.on bA
    replace hS:=hS.on bA
    clear bA
    refine hKK.out _ _ hHeld ?_
    clear hHeld
    intro hHeld
    clear hKK KK
    try simp only [pP,pN,pS,pZ,pC]
    obtain ⟨cc,hcc⟩:∃ cc,wF2.heap.size=cc:=⟨_,rfl⟩
    rw [hcc] at vN hc9
    try rw [hcc]
    clear hcc
    refine wpAnyH_ready (rs:=[10]) (by kernel_rfl) (by simp) ?_
    refine cons' rfl (fun KK hKK=>?_)
    have fz:=fun o=>vN.2.frozen o
    have hS2:Ow wC.heap.size (set3 wF3 cc (.bool (ng S.num)) (.slice p (ln (am S.num)) (ln (am S.num))) (.slice q (ln S.den) (ln S.den))) S p q:=hS.put vN (by simp) (by simp) (by simp)
    replace bT:=below_set3 (u0:=.bool (ng S.num)) (u1:=.slice p (ln (am S.num)) (ln (am S.num))) (u2:=.slice q (ln S.den) (ln S.den)) bT hc9
    have hH2:=(⟨(set3_far (w:=wF3) (c:=cc) (b:=cS) (o:=0) (u0:=.bool (ng S.num)) (u1:=.slice p (ln (am S.num)) (ln (am S.num))) (u2:=.slice q (ln S.den) (ln S.den)) (by omega)).trans hHeld.1,(set3_far (w:=wF3) (c:=cc) (b:=cS) (o:=1) (u0:=.bool (ng S.num)) (u1:=.slice p (ln (am S.num)) (ln (am S.num))) (u2:=.slice q (ln S.den) (ln S.den)) (by omega)).trans hHeld.2.1,(set3_far (w:=wF3) (c:=cc) (b:=cS) (o:=2) (u0:=.bool (ng S.num)) (u1:=.slice p (ln (am S.num)) (ln (am S.num))) (u2:=.slice q (ln S.den) (ln S.den)) (by omega)).trans hHeld.2.2.1,(set3_far (w:=wF3) (c:=cc) (b:=cS) (o:=3) (u0:=.bool (ng S.num)) (u1:=.slice p (ln (am S.num)) (ln (am S.num))) (u2:=.slice q (ln S.den) (ln S.den)) (by omega)).trans hHeld.2.2.2.1,(set3_far (w:=wF3) (c:=cc) (b:=cS) (o:=4) (u0:=.bool (ng S.num)) (u1:=.slice p (ln (am S.num)) (ln (am S.num))) (u2:=.slice q (ln S.den) (ln S.den)) (by omega)).trans hHeld.2.2.2.2.1,(set3_far (w:=wF3) (c:=cc) (b:=cS) (o:=5) (u0:=.bool (ng S.num)) (u1:=.slice p (ln (am S.num)) (ln (am S.num))) (u2:=.slice q (ln S.den) (ln S.den)) (by omega)).trans hHeld.2.2.2.2.2⟩:_∧_∧_∧_∧_∧_)
    have vN2:=vN.put (u0:=.bool (ng S.num)) (u1:=.slice p (ln (am S.num)) (ln (am S.num))) (u2:=.slice q (ln S.den) (ln S.den))
    have z0:=vN.1.1
    have z1:=vN.1.2.1
    have z2:=vN.1.2.2
    go_simp
    clear z0 z1 z2 vN fz
    refine hKK.out _ _ hH2 ?_
    clear hHeld
    intro hHeld
    clear hKK KK
    try simp only [pP,pN,pS,pZ,pC]
    clear hH2
    refine tk 11 (v:=?_) rfl (Or.inl ⟨by rfl,?_⟩) ?_
    rotate_left
    ·intro w9 hSw
     go_simp
     first | done | with_reducible rfl
    simp only [pP,pN,pS,pZ,pC]
    refine wpAnyH_done (by kernel_rfl) ?_ _
    go_wp2_with fail
    go_meet
    exact ⟨_,cc,p,q,rfl,rfl,rfl,vN2,bT,hS2⟩
   refine consT rfl (fun KK hKK=>?_) ?_
   ·skip
    go_simp
    have vN:Thr (wF1.alloc (.cells #[.bool false,.slice none 0 0,.slice none 0 0] 27)) wF1.heap.size (.bool false) (.slice none 0 0) (.slice none 0 0):=⟨⟨by go_simp,by go_simp,by go_simp⟩,row_new wF1 _ 27⟩
    have bA:=below_alloc (w:=wF1) (.cells #[.bool false,.slice none 0 0,.slice none 0 0] 27)
    have hc9:wC.heap.size≤wF1.heap.size:=bT.size
    generalize wF1.alloc (.cells #[.bool false,.slice none 0 0,.slice none 0 0] 27)=wF4 at vN bA ⊢
    replace bT:=bT.trans (bA.mono bT.size)
    replace hHeld:=(⟨below_cell bA hHeld.1,below_cell bA hHeld.2.1,below_cell bA hHeld.2.2.1,below_cell bA hHeld.2.2.2.1,below_cell bA hHeld.2.2.2.2.1,below_cell bA hHeld.2.2.2.2.2⟩:_∧_∧_∧_∧_∧_)
    replace hX:=hX.on bA
    replace hY:=hY.on bA
    replace hZ:=hZ.on bA
    clear bA
    refine hKK.out _ _ hHeld ?_
    clear hHeld
    intro hHeld
    clear hKK KK
    try simp only [pP,pN,pS,pZ,pC]
    obtain ⟨cc,hcc⟩:∃ cc,wF1.heap.size=cc:=⟨_,rfl⟩
    rw [hcc] at vN hc9
    try rw [hcc]
    clear hcc
    refine wpAnyH_ready (rs:=[5]) (by kernel_rfl) (by simp) ?_
    refine cons' rfl (fun KK hKK=>?_)
    have h99:=bT.size
    go_simp
    refine (G3.out _ p1 q1 p3 q3 hX hZ).mono ?_
    rintro e wF5 ⟨p,q,rfl,bV,hS⟩
    replace hS:=hS.mono h99
    clear h99
    replace bT:=bT.trans (bV.mono bT.size)
    replace vN:=vN.later bV
    replace hHeld:=(⟨below_cell bV hHeld.1,below_cell bV hHeld.2.1,below_cell bV hHeld.2.2.1,below_cell bV hHeld.2.2.2.1,below_cell bV hHeld.2.2.2.2.1,below_cell bV hHeld.2.2.2.2.2⟩:_∧_∧_∧_∧_∧_)
    replace hX:=hX.on bV
    replace hY:=hY.on bV
    replace hZ:=hZ.on bV
    clear bV
    go_wp2_with fail
    refine hKK.out _ _ hHeld ?_
    clear hHeld
    intro hHeld
    clear hKK KK
    try simp only [pP,pN,pS,pZ,pC]
    refine tk 6 (v:=?_) rfl (Or.inl ⟨by rfl,?_⟩) ?_
    rotate_left
    ·intro w9 hSw
     go_simp
     first | done | with_reducible rfl
    simp only [pP,pN,pS,pZ,pC]
    refine tk 7 (v:=?_) rfl (Or.inl ⟨by rfl,?_⟩) ?_
    rotate_left
    ·intro w9 hSw
     go_simp
     first | done | with_reducible rfl
    simp only [pP,pN,pS,pZ,pC]
    refine tk 8 (v:=?_) rfl (Or.inl ⟨by rfl,?_⟩) ?_
    rotate_left
    ·intro w9 hSw
     go_simp
     first | done | with_reducible rfl
    simp only [pP,pN,pS,pZ,pC]
    refine wpAnyH_ready (rs:=[10]) (by kernel_rfl) (by simp) ?_
    refine cons' rfl (fun KK hKK=>?_)
    have fz:=fun o=>vN.2.frozen o
    have hS2:Ow wC.heap.size (set3 wF5 cc (.bool (ng S.num)) (.slice p (ln (am S.num)) (ln (am S.num))) (.slice q (ln S.den) (ln S.den))) S p q:=hS.put vN (by simp) (by simp) (by simp)
    replace bT:=below_set3 (u0:=.bool (ng S.num)) (u1:=.slice p (ln (am S.num)) (ln (am S.num))) (u2:=.slice q (ln S.den) (ln S.den)) bT hc9
    have hH2:=(⟨(set3_far (w:=wF5) (c:=cc) (b:=cS) (o:=0) (u0:=.bool (ng S.num)) (u1:=.slice p (ln (am S.num)) (ln (am S.num))) (u2:=.slice q (ln S.den) (ln S.den)) (by omega)).trans hHeld.1,(set3_far (w:=wF5) (c:=cc) (b:=cS) (o:=1) (u0:=.bool (ng S.num)) (u1:=.slice p (ln (am S.num)) (ln (am S.num))) (u2:=.slice q (ln S.den) (ln S.den)) (by omega)).trans hHeld.2.1,(set3_far (w:=wF5) (c:=cc) (b:=cS) (o:=2) (u0:=.bool (ng S.num)) (u1:=.slice p (ln (am S.num)) (ln (am S.num))) (u2:=.slice q (ln S.den) (ln S.den)) (by omega)).trans hHeld.2.2.1,(set3_far (w:=wF5) (c:=cc) (b:=cS) (o:=3) (u0:=.bool (ng S.num)) (u1:=.slice p (ln (am S.num)) (ln (am S.num))) (u2:=.slice q (ln S.den) (ln S.den)) (by omega)).trans hHeld.2.2.2.1,(set3_far (w:=wF5) (c:=cc) (b:=cS) (o:=4) (u0:=.bool (ng S.num)) (u1:=.slice p (ln (am S.num)) (ln (am S.num))) (u2:=.slice q (ln S.den) (ln S.den)) (by omega)).trans hHeld.2.2.2.2.1,(set3_far (w:=wF5) (c:=cc) (b:=cS) (o:=5) (u0:=.bool (ng S.num)) (u1:=.slice p (ln (am S.num)) (ln (am S.num))) (u2:=.slice q (ln S.den) (ln S.den)) (by omega)).trans hHeld.2.2.2.2.2⟩:_∧_∧_∧_∧_∧_)
    have vN2:=vN.put (u0:=.bool (ng S.num)) (u1:=.slice p (ln (am S.num)) (ln (am S.num))) (u2:=.slice q (ln S.den) (ln S.den))
    have z0:=vN.1.1
    have z1:=vN.1.2.1
    have z2:=vN.1.2.2
    go_simp
    clear z0 z1 z2 vN fz
    refine hKK.out _ _ hH2 ?_
    clear hHeld
    intro hHeld
    clear hKK KK
    try simp only [pP,pN,pS,pZ,pC]
    clear hH2
    refine tk 11 (v:=?_) rfl (Or.inl ⟨by rfl,?_⟩) ?_
    rotate_left
    ·intro w9 hSw
     go_simp
     first | done | with_reducible rfl
    simp only [pP,pN,pS,pZ,pC]
    refine wpAnyH_done (by kernel_rfl) ?_ _
    go_wp2_with fail
    go_meet
    exact ⟨_,cc,p,q,rfl,rfl,rfl,vN2,bT,hS2⟩
   exact AllReadyH.nil
  refine consT rfl (fun KK hKK=>?_) ?_
  ·skip
   go_simp
   have vN:Thr (wF0.alloc (.cells #[.bool false,.slice none 0 0,.slice none 0 0] 27)) wF0.heap.size (.bool false) (.slice none 0 0) (.slice none 0 0):=⟨⟨by go_simp,by go_simp,by go_simp⟩,row_new wF0 _ 27⟩
   have bA:=below_alloc (w:=wF0) (.cells #[.bool false,.slice none 0 0,.slice none 0 0] 27)
   have hc9:wC.heap.size≤wF0.heap.size:=bT.size
   generalize wF0.alloc (.cells #[.bool false,.slice none 0 0,.slice none 0 0] 27)=wF6 at vN bA ⊢
   replace bT:=bT.trans (bA.mono bT.size)
   replace hHeld:=(⟨below_cell bA hHeld.1,below_cell bA hHeld.2.1,below_cell bA hHeld.2.2.1,below_cell bA hHeld.2.2.2.1,below_cell bA hHeld.2.2.2.2.1,below_cell bA hHeld.2.2.2.2.2⟩:_∧_∧_∧_∧_∧_)
   replace hX:=hX.on bA
   replace hY:=hY.on bA
   clear bA
   refine hKK.out _ _ hHeld ?_
   clear hHeld
   intro hHeld
   clear hKK KK
   try simp only [pP,pN,pS,pZ,pC]
   obtain ⟨cc,hcc⟩:∃ cc,wF0.heap.size=cc:=⟨_,rfl⟩
   rw [hcc] at vN hc9
   try rw [hcc]
   clear hcc
   refine wpAnyH_ready (rs:=[4]) (by kernel_rfl) (by simp) ?_
   refine cons' rfl (fun KK hKK=>?_)
   go_simp
   refine (G2.out _ p2 q2 hY).mono ?_
   rintro e wF7 ⟨p3,q3,rfl,bV,hZ⟩
   replace bT:=bT.trans (bV.mono bT.size)
   replace vN:=vN.later bV
   replace hHeld:=(⟨below_cell bV hHeld.1,below_cell bV hHeld.2.1,below_cell bV hHeld.2.2.1,below_cell bV hHeld.2.2.2.1,below_cell bV hHeld.2.2.2.2.1,below_cell bV hHeld.2.2.2.2.2⟩:_∧_∧_∧_∧_∧_)
   replace hX:=hX.on bV
   replace hY:=hY.on bV
   clear bV
   go_wp2_with fail
   refine hKK.out _ _ hHeld ?_
   clear hHeld
   intro hHeld
   clear hKK KK
   try simp only [pP,pN,pS,pZ,pC]
   refine wpAnyH_ready (rs:=[5]) (by kernel_rfl) (by simp) ?_
   refine cons' rfl (fun KK hKK=>?_)
   have h99:=bT.size
   go_simp
   refine (G3.out _ p1 q1 p3 q3 hX hZ).mono ?_
   rintro e wF8 ⟨p,q,rfl,bV,hS⟩
   replace hS:=hS.mono h99
   clear h99
   replace bT:=bT.trans (bV.mono bT.size)
   replace vN:=vN.later bV
   replace hHeld:=(⟨below_cell bV hHeld.1,below_cell bV hHeld.2.1,below_cell bV hHeld.2.2.1,below_cell bV hHeld.2.2.2.1,below_cell bV hHeld.2.2.2.2.1,below_cell bV hHeld.2.2.2.2.2⟩:_∧_∧_∧_∧_∧_)
   replace hX:=hX.on bV
   replace hY:=hY.on bV
   replace hZ:=hZ.on bV
   clear bV
   go_wp2_with fail
   refine hKK.out _ _ hHeld ?_
   clear hHeld
   intro hHeld
   clear hKK KK
   try simp only [pP,pN,pS,pZ,pC]
   refine tk 6 (v:=?_) rfl (Or.inl ⟨by rfl,?_⟩) ?_
   rotate_left
   ·intro w9 hSw
    go_simp
    first | done | with_reducible rfl
   simp only [pP,pN,pS,pZ,pC]
   refine tk 7 (v:=?_) rfl (Or.inl ⟨by rfl,?_⟩) ?_
   rotate_left
   ·intro w9 hSw
    go_simp
    first | done | with_reducible rfl
   simp only [pP,pN,pS,pZ,pC]
   refine tk 8 (v:=?_) rfl (Or.inl ⟨by rfl,?_⟩) ?_
   rotate_left
   ·intro w9 hSw
    go_simp
    first | done | with_reducible rfl
   simp only [pP,pN,pS,pZ,pC]
   refine wpAnyH_ready (rs:=[10]) (by kernel_rfl) (by simp) ?_
   refine cons' rfl (fun KK hKK=>?_)
   have fz:=fun o=>vN.2.frozen o
   have hS2:Ow wC.heap.size (set3 wF8 cc (.bool (ng S.num)) (.slice p (ln (am S.num)) (ln (am S.num))) (.slice q (ln S.den) (ln S.den))) S p q:=hS.put vN (by simp) (by simp) (by simp)
   replace bT:=below_set3 (u0:=.bool (ng S.num)) (u1:=.slice p (ln (am S.num)) (ln (am S.num))) (u2:=.slice q (ln S.den) (ln S.den)) bT hc9
   have hH2:=(⟨(set3_far (w:=wF8) (c:=cc) (b:=cS) (o:=0) (u0:=.bool (ng S.num)) (u1:=.slice p (ln (am S.num)) (ln (am S.num))) (u2:=.slice q (ln S.den) (ln S.den)) (by omega)).trans hHeld.1,(set3_far (w:=wF8) (c:=cc) (b:=cS) (o:=1) (u0:=.bool (ng S.num)) (u1:=.slice p (ln (am S.num)) (ln (am S.num))) (u2:=.slice q (ln S.den) (ln S.den)) (by omega)).trans hHeld.2.1,(set3_far (w:=wF8) (c:=cc) (b:=cS) (o:=2) (u0:=.bool (ng S.num)) (u1:=.slice p (ln (am S.num)) (ln (am S.num))) (u2:=.slice q (ln S.den) (ln S.den)) (by omega)).trans hHeld.2.2.1,(set3_far (w:=wF8) (c:=cc) (b:=cS) (o:=3) (u0:=.bool (ng S.num)) (u1:=.slice p (ln (am S.num)) (ln (am S.num))) (u2:=.slice q (ln S.den) (ln S.den)) (by omega)).trans hHeld.2.2.2.1,(set3_far (w:=wF8) (c:=cc) (b:=cS) (o:=4) (u0:=.bool (ng S.num)) (u1:=.slice p (ln (am S.num)) (ln (am S.num))) (u2:=.slice q (ln S.den) (ln S.den)) (by omega)).trans hHeld.2.2.2.2.1,(set3_far (w:=wF8) (c:=cc) (b:=cS) (o:=5) (u0:=.bool (ng S.num)) (u1:=.slice p (ln (am S.num)) (ln (am S.num))) (u2:=.slice q (ln S.den) (ln S.den)) (by omega)).trans hHeld.2.2.2.2.2⟩:_∧_∧_∧_∧_∧_)
   have vN2:=vN.put (u0:=.bool (ng S.num)) (u1:=.slice p (ln (am S.num)) (ln (am S.num))) (u2:=.slice q (ln S.den) (ln S.den))
   have z0:=vN.1.1
   have z1:=vN.1.2.1
   have z2:=vN.1.2.2
   go_simp
   clear z0 z1 z2 vN fz
   refine hKK.out _ _ hH2 ?_
   clear hHeld
   intro hHeld
   clear hKK KK
   try simp only [pP,pN,pS,pZ,pC]
   clear hH2
   refine tk 11 (v:=?_) rfl (Or.inl ⟨by rfl,?_⟩) ?_
   rotate_left
   ·intro w9 hSw
    go_simp
    first | done | with_reducible rfl
   simp only [pP,pN,pS,pZ,pC]
   refine wpAnyH_done (by kernel_rfl) ?_ _
   go_wp2_with fail
   go_meet
   exact ⟨_,cc,p,q,rfl,rfl,rfl,vN2,bT,hS2⟩
  exact AllReadyH.nil
 case rest =>
  obtain ⟨wv,c,p,q,hwv,rfl,rfl,v4,bT,hS⟩:=hcut
  subst hwv
  have h98:=hB.size
  replace rA:=rA.later bT
  replace hB:=hB.trans (bT.mono hB.size)
  clear bT hX hY y0 y1 y2 y3 y4 y5
  have x0:=v4.1.1
  have x1:=v4.1.2.1
  have x2:=v4.1.2.2
  have fz:=fun o=>rA.2.frozen o
  have z0:=rA.1.1
  have z1:=rA.1.2.1
  have z2:=rA.1.2.2
  have hS2:Ow w.heap.size (set3 wv (w.heap.size+1) (.bool (ng S.num)) (.slice p (ln (am S.num)) (ln (am S.num))) (.slice q (ln S.den) (ln S.den))) S p q:=(hS.mono h98).put rA (by simp) (by simp) (by simp)
  have hB2:=below_set3 (u0:=.bool (ng S.num)) (u1:=.slice p (ln (am S.num)) (ln (am S.num))) (u2:=.slice q (ln S.den) (ln S.den)) hB (show w.heap.size≤w.heap.size+1 by omega)
  have rD:=rA.put (u0:=.bool (ng S.num)) (u1:=.slice p (ln (am S.num)) (ln (am S.num))) (u2:=.slice q (ln S.den) (ln S.den))
  obtain ⟨⟨v0,v1,v2⟩,_⟩:=rD
  replace hB2:=hide' hB2
  replace hS2:=hide' hS2
  clear v4 rA hB hS
  go_wp2
  refine bodyPost_ret (v:=Value.agg #[Value.bool (ng S.num),Value.slice p (ln (am S.num)) (ln (am S.num)),Value.slice q (ln S.den) (ln S.den)]) (by rw [results_cell rfl];go_simp) rfl ?_
  exact ⟨p,q,rfl,hB2.out,hS2.out⟩
set_option maxHeartbeats 2000000 in
set_option maxRecDepth 100000 in
theorem lookO_wide (g:GapV) (c:Nat) (r:Rat) (p q:Option Addr) (w:World) (hg:g.ok w) (hk:g.tiny) (hb:¬ badG g.val) (hT:Thr w c (.bool (ng r.num)) (.slice p (ln (am r.num)) (ln (am r.num))) (.slice q (ln r.den) (ln r.den))) (lo:Nat) (hlo:lo≤w.heap.size) (hr:Ow lo w r p q) (hs:sz 8388622 r) (hn:¬ nar g.val):Calls Tryz.prog 48 #[.agg #[.bool g.lo.a.s,.slice g.lo.a.a g.lo.a.n g.lo.a.c,.slice g.lo.a.b g.lo.a.m g.lo.a.e,.bool g.lo.b.s,.slice g.lo.b.a g.lo.b.n g.lo.b.c,.slice g.lo.b.b g.lo.b.m g.lo.b.e,.bool g.hi.a.s,.slice g.hi.a.a g.hi.a.n g.hi.a.c,.slice g.hi.a.b g.hi.a.m g.hi.a.e,.bool g.hi.b.s,.slice g.hi.b.a g.hi.b.n g.hi.b.c,.slice g.hi.b.b g.hi.b.m g.hi.b.e],.pointer (some ⟨c,0,none⟩)] w (fun e w1=>e=.returned (.int .i64 0)∧∃ p' q',Below c w w1∧Thr w1 c (.bool (ng r.num)) (.slice p' (ln (am r.num)) (ln (am r.num))) (.slice q' (ln r.den) (ln r.den))∧Ow lo w1 r p' q'):=by
 have G1:=hide' (fun w' (hb:Below w.heap.size w w')=>cmpDq g.lo g.hi w' (hg.1.on hb) (hg.2.on hb) hk.1.short hk.2.short)
 have hbc:=bad_cmp g
 obtain ⟨C,hC⟩:∃ C,cmpD g.lo.val g.hi.val=C:=⟨_,rfl⟩
 rw [hC] at G1 hbc
 have hc1:¬ 0 < C:=by exact fun h=>hb (hbc.1 h)
 clear hbc hC
 have G2:=hide' (fun w' (hb:Below w.heap.size w w')=>show Calls Tryz.prog 50 #[.agg #[.bool g.lo.a.s,.slice g.lo.a.a g.lo.a.n g.lo.a.c,.slice g.lo.a.b g.lo.a.m g.lo.a.e,.bool g.lo.b.s,.slice g.lo.b.a g.lo.b.n g.lo.b.c,.slice g.lo.b.b g.lo.b.m g.lo.b.e,.bool g.hi.a.s,.slice g.hi.a.a g.hi.a.n g.hi.a.c,.slice g.hi.a.b g.hi.a.m g.hi.a.e,.bool g.hi.b.s,.slice g.hi.b.a g.hi.b.n g.hi.b.c,.slice g.hi.b.b g.hi.b.m g.hi.b.e]] w' fun e w1=>e=.returned (.bool false)∧Below w'.heap.size w' w1 by have h:=narrows_is g w' (hg.on hb) hk;rw [decide_eq_false hn] at h;exact h)
 have hcl:=hT.2.lt
 clear hg hk hb hn
 go_enter Tryz.func48,Tryz.ntmps48
 go_wp2_with fail
 obtain ⟨wA,hwA⟩:∃ wA,w.alloc (.cells #[.bool g.lo.a.s,.slice g.lo.a.a g.lo.a.n g.lo.a.c,.slice g.lo.a.b g.lo.a.m g.lo.a.e,.bool g.lo.b.s,.slice g.lo.b.a g.lo.b.n g.lo.b.c,.slice g.lo.b.b g.lo.b.m g.lo.b.e,.bool g.hi.a.s,.slice g.hi.a.a g.hi.a.n g.hi.a.c,.slice g.hi.a.b g.hi.a.m g.hi.a.e,.bool g.hi.b.s,.slice g.hi.b.a g.hi.b.n g.hi.b.c,.slice g.hi.b.b g.hi.b.m g.hi.b.e] 48)=wA:=⟨_,rfl⟩
 have hB:Below w.heap.size w wA:=by subst hwA;exact below_alloc _
 have d0:wA.cell? ⟨w.heap.size,0,none⟩=some (.bool g.lo.a.s):=by subst hwA;go_simp
 have d1:wA.cell? ⟨w.heap.size,1,none⟩=some (.slice g.lo.a.a g.lo.a.n g.lo.a.c):=by subst hwA;go_simp
 have d2:wA.cell? ⟨w.heap.size,2,none⟩=some (.slice g.lo.a.b g.lo.a.m g.lo.a.e):=by subst hwA;go_simp
 have d3:wA.cell? ⟨w.heap.size,3,none⟩=some (.bool g.lo.b.s):=by subst hwA;go_simp
 have d4:wA.cell? ⟨w.heap.size,4,none⟩=some (.slice g.lo.b.a g.lo.b.n g.lo.b.c):=by subst hwA;go_simp
 have d5:wA.cell? ⟨w.heap.size,5,none⟩=some (.slice g.lo.b.b g.lo.b.m g.lo.b.e):=by subst hwA;go_simp
 have d6:wA.cell? ⟨w.heap.size,6,none⟩=some (.bool g.hi.a.s):=by subst hwA;go_simp
 have d7:wA.cell? ⟨w.heap.size,7,none⟩=some (.slice g.hi.a.a g.hi.a.n g.hi.a.c):=by subst hwA;go_simp
 have d8:wA.cell? ⟨w.heap.size,8,none⟩=some (.slice g.hi.a.b g.hi.a.m g.hi.a.e):=by subst hwA;go_simp
 have d9:wA.cell? ⟨w.heap.size,9,none⟩=some (.bool g.hi.b.s):=by subst hwA;go_simp
 have d10:wA.cell? ⟨w.heap.size,10,none⟩=some (.slice g.hi.b.a g.hi.b.n g.hi.b.c):=by subst hwA;go_simp
 have d11:wA.cell? ⟨w.heap.size,11,none⟩=some (.slice g.hi.b.b g.hi.b.m g.hi.b.e):=by subst hwA;go_simp
 rw [hwA]
 clear hwA
 replace hT:=hT.later hB
 replace hr:=hr.on hB
 refine (G1.out _ hB).mono ?_
 rintro e w1 ⟨rfl,b1⟩
 replace d0:=below_cell b1 d0
 replace d1:=below_cell b1 d1
 replace d2:=below_cell b1 d2
 replace d3:=below_cell b1 d3
 replace d4:=below_cell b1 d4
 replace d5:=below_cell b1 d5
 replace d6:=below_cell b1 d6
 replace d7:=below_cell b1 d7
 replace d8:=below_cell b1 d8
 replace d9:=below_cell b1 d9
 replace d10:=below_cell b1 d10
 replace d11:=below_cell b1 d11
 replace hT:=hT.later b1
 replace hr:=hr.on b1
 replace hB:=hB.trans (b1.mono hB.size)
 clear b1
 go_wp2_with fail
 refine (G2.out _ hB).mono ?_
 rintro e w2 ⟨rfl,b2⟩
 replace hT:=hT.later b2
 replace hr:=hr.on b2
 replace hB:=hB.trans (b2.mono hB.size)
 clear b2
 go_wp2
 go_ret
 exact ⟨rfl,p,q,hB.mono (Nat.le_of_lt hcl),hT,hr⟩
set_option maxHeartbeats 4000000 in
set_option maxRecDepth 100000 in
theorem lookO_more (g:GapV) (c:Nat) (r:Rat) (p q:Option Addr) (w:World) (hg:g.ok w) (hk:g.tiny) (hb:¬ badG g.val) (hT:Thr w c (.bool (ng r.num)) (.slice p (ln (am r.num)) (ln (am r.num))) (.slice q (ln r.den) (ln r.den))) (lo:Nat) (hlo:lo≤w.heap.size) (hr:Ow lo w r p q) (hs:sz 8388622 r) (hn:nar g.val) (hl:¬ shutR g.val < r):Calls Tryz.prog 48 #[.agg #[.bool g.lo.a.s,.slice g.lo.a.a g.lo.a.n g.lo.a.c,.slice g.lo.a.b g.lo.a.m g.lo.a.e,.bool g.lo.b.s,.slice g.lo.b.a g.lo.b.n g.lo.b.c,.slice g.lo.b.b g.lo.b.m g.lo.b.e,.bool g.hi.a.s,.slice g.hi.a.a g.hi.a.n g.hi.a.c,.slice g.hi.a.b g.hi.a.m g.hi.a.e,.bool g.hi.b.s,.slice g.hi.b.a g.hi.b.n g.hi.b.c,.slice g.hi.b.b g.hi.b.m g.hi.b.e],.pointer (some ⟨c,0,none⟩)] w (fun e w1=>e=.returned (.int .i64 0)∧∃ p' q',Below c w w1∧Thr w1 c (.bool (ng r.num)) (.slice p' (ln (am r.num)) (ln (am r.num))) (.slice q' (ln r.den) (ln r.den))∧Ow lo w1 r p' q'):=by
 have G1:=hide' (fun w' (hb:Below w.heap.size w w')=>cmpDq g.lo g.hi w' (hg.1.on hb) (hg.2.on hb) hk.1.short hk.2.short)
 have hbc:=bad_cmp g
 obtain ⟨C,hC⟩:∃ C,cmpD g.lo.val g.hi.val=C:=⟨_,rfl⟩
 rw [hC] at G1 hbc
 have hc1:¬ 0 < C:=by exact fun h=>hb (hbc.1 h)
 clear hbc hC
 have G2:=hide' (fun w' (hb:Below w.heap.size w w')=>show Calls Tryz.prog 50 #[.agg #[.bool g.lo.a.s,.slice g.lo.a.a g.lo.a.n g.lo.a.c,.slice g.lo.a.b g.lo.a.m g.lo.a.e,.bool g.lo.b.s,.slice g.lo.b.a g.lo.b.n g.lo.b.c,.slice g.lo.b.b g.lo.b.m g.lo.b.e,.bool g.hi.a.s,.slice g.hi.a.a g.hi.a.n g.hi.a.c,.slice g.hi.a.b g.hi.a.m g.hi.a.e,.bool g.hi.b.s,.slice g.hi.b.a g.hi.b.n g.hi.b.c,.slice g.hi.b.b g.hi.b.m g.hi.b.e]] w' fun e w1=>e=.returned (.bool true)∧Below w'.heap.size w' w1 by have h:=narrows_is g w' (hg.on hb) hk;rw [decide_eq_true hn] at h;exact h)
 have G3:=hide' (fun w' (hb:Below w.heap.size w w')=>shut_ow g w' (hg.on hb) hk hn)
 have s3:=shut_sz hg hk hn
 obtain ⟨S,hS⟩:∃ S,shutR g.val=S:=⟨_,rfl⟩
 rw [hS] at G3 s3 hl
 clear hS
 have G4:=hide' (fun w' p1 q1 (k:(nR S p1 q1).ok w') (k2:(nR r p q).ok w')=>cmpQ (nR S p1 q1) (nR r p q) w' k k2 ⟨(nR_short s3).1,(nR_short s3).2,(nR_short hs).1,(nR_short hs).2⟩ _ rfl)
 simp only [nR_val] at G4
 have hlt:=lt_sR S r
 obtain ⟨E,hE⟩:∃ E,sR (S - r)=E:=⟨_,rfl⟩
 rw [hE] at G4 hlt
 have hc2:¬ E < 0:=fun h=>hl (hlt.1 h)
 clear hlt hE hl s3 hs
 have hcl:=hT.2.lt
 clear hg hk hb hn
 go_enter Tryz.func48,Tryz.ntmps48
 go_wp2_with fail
 obtain ⟨wA,hwA⟩:∃ wA,w.alloc (.cells #[.bool g.lo.a.s,.slice g.lo.a.a g.lo.a.n g.lo.a.c,.slice g.lo.a.b g.lo.a.m g.lo.a.e,.bool g.lo.b.s,.slice g.lo.b.a g.lo.b.n g.lo.b.c,.slice g.lo.b.b g.lo.b.m g.lo.b.e,.bool g.hi.a.s,.slice g.hi.a.a g.hi.a.n g.hi.a.c,.slice g.hi.a.b g.hi.a.m g.hi.a.e,.bool g.hi.b.s,.slice g.hi.b.a g.hi.b.n g.hi.b.c,.slice g.hi.b.b g.hi.b.m g.hi.b.e] 48)=wA:=⟨_,rfl⟩
 have hB:Below w.heap.size w wA:=by subst hwA;exact below_alloc _
 have d0:wA.cell? ⟨w.heap.size,0,none⟩=some (.bool g.lo.a.s):=by subst hwA;go_simp
 have d1:wA.cell? ⟨w.heap.size,1,none⟩=some (.slice g.lo.a.a g.lo.a.n g.lo.a.c):=by subst hwA;go_simp
 have d2:wA.cell? ⟨w.heap.size,2,none⟩=some (.slice g.lo.a.b g.lo.a.m g.lo.a.e):=by subst hwA;go_simp
 have d3:wA.cell? ⟨w.heap.size,3,none⟩=some (.bool g.lo.b.s):=by subst hwA;go_simp
 have d4:wA.cell? ⟨w.heap.size,4,none⟩=some (.slice g.lo.b.a g.lo.b.n g.lo.b.c):=by subst hwA;go_simp
 have d5:wA.cell? ⟨w.heap.size,5,none⟩=some (.slice g.lo.b.b g.lo.b.m g.lo.b.e):=by subst hwA;go_simp
 have d6:wA.cell? ⟨w.heap.size,6,none⟩=some (.bool g.hi.a.s):=by subst hwA;go_simp
 have d7:wA.cell? ⟨w.heap.size,7,none⟩=some (.slice g.hi.a.a g.hi.a.n g.hi.a.c):=by subst hwA;go_simp
 have d8:wA.cell? ⟨w.heap.size,8,none⟩=some (.slice g.hi.a.b g.hi.a.m g.hi.a.e):=by subst hwA;go_simp
 have d9:wA.cell? ⟨w.heap.size,9,none⟩=some (.bool g.hi.b.s):=by subst hwA;go_simp
 have d10:wA.cell? ⟨w.heap.size,10,none⟩=some (.slice g.hi.b.a g.hi.b.n g.hi.b.c):=by subst hwA;go_simp
 have d11:wA.cell? ⟨w.heap.size,11,none⟩=some (.slice g.hi.b.b g.hi.b.m g.hi.b.e):=by subst hwA;go_simp
 rw [hwA]
 clear hwA
 replace hT:=hT.later hB
 replace hr:=hr.on hB
 refine (G1.out _ hB).mono ?_
 rintro e w1 ⟨rfl,b1⟩
 replace d0:=below_cell b1 d0
 replace d1:=below_cell b1 d1
 replace d2:=below_cell b1 d2
 replace d3:=below_cell b1 d3
 replace d4:=below_cell b1 d4
 replace d5:=below_cell b1 d5
 replace d6:=below_cell b1 d6
 replace d7:=below_cell b1 d7
 replace d8:=below_cell b1 d8
 replace d9:=below_cell b1 d9
 replace d10:=below_cell b1 d10
 replace d11:=below_cell b1 d11
 replace hT:=hT.later b1
 replace hr:=hr.on b1
 replace hB:=hB.trans (b1.mono hB.size)
 clear b1
 go_wp2_with fail
 refine (G2.out _ hB).mono ?_
 rintro e w2 ⟨rfl,b2⟩
 replace d0:=below_cell b2 d0
 replace d1:=below_cell b2 d1
 replace d2:=below_cell b2 d2
 replace d3:=below_cell b2 d3
 replace d4:=below_cell b2 d4
 replace d5:=below_cell b2 d5
 replace d6:=below_cell b2 d6
 replace d7:=below_cell b2 d7
 replace d8:=below_cell b2 d8
 replace d9:=below_cell b2 d9
 replace d10:=below_cell b2 d10
 replace d11:=below_cell b2 d11
 replace hT:=hT.later b2
 replace hr:=hr.on b2
 replace hB:=hB.trans (b2.mono hB.size)
 clear b2
 go_wp2_with fail
 refine (G3.out _ hB).mono ?_
 rintro e w3 ⟨p1,q1,rfl,b3,hS⟩
 replace hS:=hS.mono (Nat.le_trans hlo hB.size)
 replace hT:=hT.later b3
 replace hr:=hr.on b3
 replace hB:=hB.trans (b3.mono hB.size)
 clear b3
 clear G1 G2 G3 d0 d1 d2 d3 d4 d5 d6 d7 d8 d9 d10 d11
 obtain ⟨wC,hwC⟩:∃ wC,w3.alloc (.cells #[.bool (ng S.num),.slice p1 (ln (am S.num)) (ln (am S.num)),.slice q1 (ln S.den) (ln S.den)] 27)=wC:=⟨_,rfl⟩
 have bC:Below w3.heap.size w3 wC:=by subst hwC;exact below_alloc _
 have y0:wC.cell? ⟨w3.heap.size,0,none⟩=some (.bool (ng S.num)):=by subst hwC;go_simp
 have y1:wC.cell? ⟨w3.heap.size,1,none⟩=some (.slice p1 (ln (am S.num)) (ln (am S.num))):=by subst hwC;go_simp
 have y2:wC.cell? ⟨w3.heap.size,2,none⟩=some (.slice q1 (ln S.den) (ln S.den)):=by subst hwC;go_simp
 have hs3:c < w3.heap.size:=hT.2.lt
 replace hS:=hS.on bC
 replace hT:=hT.later bC
 replace hr:=hr.on bC
 replace hB:=hB.trans (bC.mono hB.size)
 clear bC
 have t0:=hT.1.1
 have t1:=hT.1.2.1
 have t2:=hT.1.2.2
 go_wp2_with fail
 clear hwC
 refine (G4.out _ p1 q1 hS.1 hr.1).mono ?_
 rintro e w4 ⟨rfl,b4⟩
 clear t0 t1 t2
 replace hS:=hS.on b4
 replace y0:=below_cell b4 y0
 replace y1:=below_cell b4 y1
 replace y2:=below_cell b4 y2
 replace hT:=hT.later b4
 replace hr:=hr.on b4
 replace hB:=hB.trans (b4.mono hB.size)
 clear b4
 go_wp2
 go_ret
 exact ⟨rfl,p,q,hB.mono (Nat.le_of_lt hcl),hT,hr⟩
set_option maxHeartbeats 4000000 in
set_option maxRecDepth 100000 in
theorem lookO_less (g:GapV) (c:Nat) (r:Rat) (p q:Option Addr) (w:World) (hg:g.ok w) (hk:g.tiny) (hb:¬ badG g.val) (hT:Thr w c (.bool (ng r.num)) (.slice p (ln (am r.num)) (ln (am r.num))) (.slice q (ln r.den) (ln r.den))) (lo:Nat) (hlo:lo≤w.heap.size) (hr:Ow lo w r p q) (hs:sz 8388622 r) (hn:nar g.val) (hl:shutR g.val < r):Calls Tryz.prog 48 #[.agg #[.bool g.lo.a.s,.slice g.lo.a.a g.lo.a.n g.lo.a.c,.slice g.lo.a.b g.lo.a.m g.lo.a.e,.bool g.lo.b.s,.slice g.lo.b.a g.lo.b.n g.lo.b.c,.slice g.lo.b.b g.lo.b.m g.lo.b.e,.bool g.hi.a.s,.slice g.hi.a.a g.hi.a.n g.hi.a.c,.slice g.hi.a.b g.hi.a.m g.hi.a.e,.bool g.hi.b.s,.slice g.hi.b.a g.hi.b.n g.hi.b.c,.slice g.hi.b.b g.hi.b.m g.hi.b.e],.pointer (some ⟨c,0,none⟩)] w (fun e w1=>e=.returned (.int .i64 0)∧∃ p' q',Below c w w1∧Thr w1 c (.bool (ng (shutR g.val).num)) (.slice p' (ln (am (shutR g.val).num)) (ln (am (shutR g.val).num))) (.slice q' (ln (shutR g.val).den) (ln (shutR g.val).den))∧Ow lo w1 (shutR g.val) p' q'):=by
 have G1:=hide' (fun w' (hb:Below w.heap.size w w')=>cmpDq g.lo g.hi w' (hg.1.on hb) (hg.2.on hb) hk.1.short hk.2.short)
 have hbc:=bad_cmp g
 obtain ⟨C,hC⟩:∃ C,cmpD g.lo.val g.hi.val=C:=⟨_,rfl⟩
 rw [hC] at G1 hbc
 have hc1:¬ 0 < C:=by exact fun h=>hb (hbc.1 h)
 clear hbc hC
 have G2:=hide' (fun w' (hb:Below w.heap.size w w')=>show Calls Tryz.prog 50 #[.agg #[.bool g.lo.a.s,.slice g.lo.a.a g.lo.a.n g.lo.a.c,.slice g.lo.a.b g.lo.a.m g.lo.a.e,.bool g.lo.b.s,.slice g.lo.b.a g.lo.b.n g.lo.b.c,.slice g.lo.b.b g.lo.b.m g.lo.b.e,.bool g.hi.a.s,.slice g.hi.a.a g.hi.a.n g.hi.a.c,.slice g.hi.a.b g.hi.a.m g.hi.a.e,.bool g.hi.b.s,.slice g.hi.b.a g.hi.b.n g.hi.b.c,.slice g.hi.b.b g.hi.b.m g.hi.b.e]] w' fun e w1=>e=.returned (.bool true)∧Below w'.heap.size w' w1 by have h:=narrows_is g w' (hg.on hb) hk;rw [decide_eq_true hn] at h;exact h)
 have G3:=hide' (fun w' (hb:Below w.heap.size w w')=>shut_ow g w' (hg.on hb) hk hn)
 have s3:=shut_sz hg hk hn
 obtain ⟨S,hS⟩:∃ S,shutR g.val=S:=⟨_,rfl⟩
 rw [hS] at G3 s3 hl ⊢
 clear hS
 have G4:=hide' (fun w' p1 q1 (k:(nR S p1 q1).ok w') (k2:(nR r p q).ok w')=>cmpQ (nR S p1 q1) (nR r p q) w' k k2 ⟨(nR_short s3).1,(nR_short s3).2,(nR_short hs).1,(nR_short hs).2⟩ _ rfl)
 simp only [nR_val] at G4
 have hlt:=lt_sR S r
 obtain ⟨E,hE⟩:∃ E,sR (S - r)=E:=⟨_,rfl⟩
 rw [hE] at G4 hlt
 have hc2:E < 0:=hlt.2 hl
 clear hlt hE hl s3 hs
 have hcl:=hT.2.lt
 clear hg hk hb hn
 go_enter Tryz.func48,Tryz.ntmps48
 go_wp2_with fail
 obtain ⟨wA,hwA⟩:∃ wA,w.alloc (.cells #[.bool g.lo.a.s,.slice g.lo.a.a g.lo.a.n g.lo.a.c,.slice g.lo.a.b g.lo.a.m g.lo.a.e,.bool g.lo.b.s,.slice g.lo.b.a g.lo.b.n g.lo.b.c,.slice g.lo.b.b g.lo.b.m g.lo.b.e,.bool g.hi.a.s,.slice g.hi.a.a g.hi.a.n g.hi.a.c,.slice g.hi.a.b g.hi.a.m g.hi.a.e,.bool g.hi.b.s,.slice g.hi.b.a g.hi.b.n g.hi.b.c,.slice g.hi.b.b g.hi.b.m g.hi.b.e] 48)=wA:=⟨_,rfl⟩
 have hB:Below w.heap.size w wA:=by subst hwA;exact below_alloc _
 have d0:wA.cell? ⟨w.heap.size,0,none⟩=some (.bool g.lo.a.s):=by subst hwA;go_simp
 have d1:wA.cell? ⟨w.heap.size,1,none⟩=some (.slice g.lo.a.a g.lo.a.n g.lo.a.c):=by subst hwA;go_simp
 have d2:wA.cell? ⟨w.heap.size,2,none⟩=some (.slice g.lo.a.b g.lo.a.m g.lo.a.e):=by subst hwA;go_simp
 have d3:wA.cell? ⟨w.heap.size,3,none⟩=some (.bool g.lo.b.s):=by subst hwA;go_simp
 have d4:wA.cell? ⟨w.heap.size,4,none⟩=some (.slice g.lo.b.a g.lo.b.n g.lo.b.c):=by subst hwA;go_simp
 have d5:wA.cell? ⟨w.heap.size,5,none⟩=some (.slice g.lo.b.b g.lo.b.m g.lo.b.e):=by subst hwA;go_simp
 have d6:wA.cell? ⟨w.heap.size,6,none⟩=some (.bool g.hi.a.s):=by subst hwA;go_simp
 have d7:wA.cell? ⟨w.heap.size,7,none⟩=some (.slice g.hi.a.a g.hi.a.n g.hi.a.c):=by subst hwA;go_simp
 have d8:wA.cell? ⟨w.heap.size,8,none⟩=some (.slice g.hi.a.b g.hi.a.m g.hi.a.e):=by subst hwA;go_simp
 have d9:wA.cell? ⟨w.heap.size,9,none⟩=some (.bool g.hi.b.s):=by subst hwA;go_simp
 have d10:wA.cell? ⟨w.heap.size,10,none⟩=some (.slice g.hi.b.a g.hi.b.n g.hi.b.c):=by subst hwA;go_simp
 have d11:wA.cell? ⟨w.heap.size,11,none⟩=some (.slice g.hi.b.b g.hi.b.m g.hi.b.e):=by subst hwA;go_simp
 rw [hwA]
 clear hwA
 replace hT:=hT.later hB
 replace hr:=hr.on hB
 refine (G1.out _ hB).mono ?_
 rintro e w1 ⟨rfl,b1⟩
 replace d0:=below_cell b1 d0
 replace d1:=below_cell b1 d1
 replace d2:=below_cell b1 d2
 replace d3:=below_cell b1 d3
 replace d4:=below_cell b1 d4
 replace d5:=below_cell b1 d5
 replace d6:=below_cell b1 d6
 replace d7:=below_cell b1 d7
 replace d8:=below_cell b1 d8
 replace d9:=below_cell b1 d9
 replace d10:=below_cell b1 d10
 replace d11:=below_cell b1 d11
 replace hT:=hT.later b1
 replace hr:=hr.on b1
 replace hB:=hB.trans (b1.mono hB.size)
 clear b1
 go_wp2_with fail
 refine (G2.out _ hB).mono ?_
 rintro e w2 ⟨rfl,b2⟩
 replace d0:=below_cell b2 d0
 replace d1:=below_cell b2 d1
 replace d2:=below_cell b2 d2
 replace d3:=below_cell b2 d3
 replace d4:=below_cell b2 d4
 replace d5:=below_cell b2 d5
 replace d6:=below_cell b2 d6
 replace d7:=below_cell b2 d7
 replace d8:=below_cell b2 d8
 replace d9:=below_cell b2 d9
 replace d10:=below_cell b2 d10
 replace d11:=below_cell b2 d11
 replace hT:=hT.later b2
 replace hr:=hr.on b2
 replace hB:=hB.trans (b2.mono hB.size)
 clear b2
 go_wp2_with fail
 refine (G3.out _ hB).mono ?_
 rintro e w3 ⟨p1,q1,rfl,b3,hS⟩
 replace hS:=hS.mono (Nat.le_trans hlo hB.size)
 replace hT:=hT.later b3
 replace hr:=hr.on b3
 replace hB:=hB.trans (b3.mono hB.size)
 clear b3
 clear G1 G2 G3 d0 d1 d2 d3 d4 d5 d6 d7 d8 d9 d10 d11
 obtain ⟨wC,hwC⟩:∃ wC,w3.alloc (.cells #[.bool (ng S.num),.slice p1 (ln (am S.num)) (ln (am S.num)),.slice q1 (ln S.den) (ln S.den)] 27)=wC:=⟨_,rfl⟩
 have bC:Below w3.heap.size w3 wC:=by subst hwC;exact below_alloc _
 have y0:wC.cell? ⟨w3.heap.size,0,none⟩=some (.bool (ng S.num)):=by subst hwC;go_simp
 have y1:wC.cell? ⟨w3.heap.size,1,none⟩=some (.slice p1 (ln (am S.num)) (ln (am S.num))):=by subst hwC;go_simp
 have y2:wC.cell? ⟨w3.heap.size,2,none⟩=some (.slice q1 (ln S.den) (ln S.den)):=by subst hwC;go_simp
 have hs3:c < w3.heap.size:=hT.2.lt
 replace hS:=hS.on bC
 replace hT:=hT.later bC
 replace hr:=hr.on bC
 replace hB:=hB.trans (bC.mono hB.size)
 clear bC
 have t0:=hT.1.1
 have t1:=hT.1.2.1
 have t2:=hT.1.2.2
 go_wp2_with fail
 clear hwC
 refine (G4.out _ p1 q1 hS.1 hr.1).mono ?_
 rintro e w4 ⟨rfl,b4⟩
 clear t0 t1 t2
 replace hS:=hS.on b4
 replace y0:=below_cell b4 y0
 replace y1:=below_cell b4 y1
 replace y2:=below_cell b4 y2
 replace hT:=hT.later b4
 replace hr:=hr.on b4
 replace hB:=hB.trans (b4.mono hB.size)
 clear b4
 have fz:=fun o=>hT.2.frozen o
 have z0:=hT.1.1
 have z1:=hT.1.2.1
 have z2:=hT.1.2.2
 have hS2:Ow lo (set3 w4 c (.bool (ng S.num)) (.slice p1 (ln (am S.num)) (ln (am S.num))) (.slice q1 (ln S.den) (ln S.den))) S p1 q1:=hS.put hT (by simp) (by simp) (by simp)
 have hB2:=below_set3 (u0:=.bool (ng S.num)) (u1:=.slice p1 (ln (am S.num)) (ln (am S.num))) (u2:=.slice q1 (ln S.den) (ln S.den)) (hB.mono (Nat.le_of_lt hcl)) (Nat.le_refl c)
 have rD:=hT.put (u0:=.bool (ng S.num)) (u1:=.slice p1 (ln (am S.num)) (ln (am S.num))) (u2:=.slice q1 (ln S.den) (ln S.den))
 replace hB2:=hide' hB2
 replace hS2:=hide' hS2
 replace rD:=hide' rD
 clear hT hB hS hr
 go_wp2
 go_ret
 exact ⟨rfl,p1,q1,hB2.out,rD.out,hS2.out⟩
theorem lookO_ok (g:GapV) (c:Nat) (r:Rat) (p q:Option Addr) (w:World) (hg:g.ok w) (hk:g.tiny) (hb:¬ badG g.val) (hT:Thr w c (.bool (ng r.num)) (.slice p (ln (am r.num)) (ln (am r.num))) (.slice q (ln r.den) (ln r.den))) (lo:Nat) (hlo:lo≤w.heap.size) (hr:Ow lo w r p q) (hs:sz 8388622 r):Calls Tryz.prog 48 #[.agg #[.bool g.lo.a.s,.slice g.lo.a.a g.lo.a.n g.lo.a.c,.slice g.lo.a.b g.lo.a.m g.lo.a.e,.bool g.lo.b.s,.slice g.lo.b.a g.lo.b.n g.lo.b.c,.slice g.lo.b.b g.lo.b.m g.lo.b.e,.bool g.hi.a.s,.slice g.hi.a.a g.hi.a.n g.hi.a.c,.slice g.hi.a.b g.hi.a.m g.hi.a.e,.bool g.hi.b.s,.slice g.hi.b.a g.hi.b.n g.hi.b.c,.slice g.hi.b.b g.hi.b.m g.hi.b.e],.pointer (some ⟨c,0,none⟩)] w (fun e w1=>e=.returned (.int .i64 0)∧∃ p' q',Below c w w1∧Thr w1 c (.bool (ng (stepG r g.val).num)) (.slice p' (ln (am (stepG r g.val).num)) (ln (am (stepG r g.val).num))) (.slice q' (ln (stepG r g.val).den) (ln (stepG r g.val).den))∧Ow lo w1 (stepG r g.val) p' q'):=by
 by_cases hn:nar g.val
 ·by_cases hl:shutR g.val < r
  ·rw [show stepG r g.val=shutR g.val from if_pos ⟨hn,hl⟩]
   exact lookO_less g c r p q w hg hk hb hT lo hlo hr hs hn hl
  ·rw [show stepG r g.val=r from if_neg fun h=>hl h.2]
   exact lookO_more g c r p q w hg hk hb hT lo hlo hr hs hn hl
 ·rw [show stepG r g.val=r from if_neg fun h=>hn h.1]
  exact lookO_wide g c r p q w hg hk hb hT lo hlo hr hs hn
set_option maxHeartbeats 4000000 in
set_option maxRecDepth 100000 in
theorem Small_ow (a:Option Addr) (n cap:Nat) (k:Nat→GapV) (w:World) (hA:GapsAt w a n k) (hok:∀ i,i < n→(k i).ok w∧(k i).tiny) (hc:n≤cap) (hn:n≤1048576) :
  Calls Tryz.prog 24 #[.slice a n cap] w fun e w'=>((∀ i,i < n→¬ badG (k i).val)∧∃ p q,e=.returned (.tuple #[.agg #[.bool (ng (smallG (gl k n)).num),.slice p (ln (am (smallG (gl k n)).num)) (ln (am (smallG (gl k n)).num)),.slice q (ln (smallG (gl k n)).den) (ln (smallG (gl k n)).den)],.int .i64 0])∧Below w.heap.size w w'∧Ow w.heap.size w' (smallG (gl k n)) p q)∨((∃ i,i < n∧badG (k i).val)∧e=.returned (.tuple #[.agg #[.bool false,.slice none 0 0,.slice none 0 0],.int .i64 51])∧Below w.heap.size w w'):=by
 have GW:=hide' wholeO1
 have HK:=hide' (fun i (hi:i < n)=>hok i hi)
 have SZ:=hide' (fun j (hj:j≤n)=>small_sz (k:=k) (w:=w) j fun i hi=>hok i (by omega))
 have HA:=hide' hA
 clear hok hA
 go_enter Tryz.func24,Tryz.ntmps24
 go_wp2_with fail
 obtain ⟨wA,hwA⟩:∃ wA,w.alloc (.cells #[.bool false,.slice none 0 0,.slice none 0 0] 27)=wA:=⟨_,rfl⟩
 have hB:Below w.heap.size w wA:=by subst hwA;exact below_alloc _
 have v2:Thr wA w.heap.size (.bool false) (.slice none 0 0) (.slice none 0 0):=by subst hwA;exact ⟨⟨by go_simp,by go_simp,by go_simp⟩,row_new w _ 27⟩
 rw [hwA]
 clear hwA
 refine (GW.out _).mono ?_
 rintro e w1 ⟨p0,q0,rfl,b1,h1⟩
 replace h1:=h1.mono hB.size
 replace v2:=v2.later b1
 replace hB:=hB.trans (b1.mono hB.size)
 clear b1 GW
 obtain ⟨r0,hr0⟩:∃ r:Rat,1=r:=⟨_,rfl⟩
 have hr1:smallG (gl k 0)=r0:=hr0
 rw [hr0] at h1 ⊢
 clear hr0
 obtain ⟨wC,hwC⟩:∃ wC,w1.alloc (.cells #[.bool (ng r0.num),.slice p0 (ln (am r0.num)) (ln (am r0.num)),.slice q0 (ln r0.den) (ln r0.den)] 27)=wC:=⟨_,rfl⟩
 have bC:Below w1.heap.size w1 wC:=by subst hwC;exact below_alloc _
 have v4:Thr wC w1.heap.size (.bool (ng r0.num)) (.slice p0 (ln (am r0.num)) (ln (am r0.num))) (.slice q0 (ln r0.den) (ln r0.den)):=by subst hwC;exact ⟨⟨by go_simp,by go_simp,by go_simp⟩,row_new w1 _ 27⟩
 have l2:=v2.2.lt
 replace v2:=v2.later bC
 replace hB:=hB.trans (bC.mono hB.size)
 replace h1:=h1.on bC
 clear bC
 go_wp2_with fail
 obtain ⟨c4,hc4⟩:∃ c,w1.heap.size=c:=⟨_,rfl⟩
 rw [hc4] at v4 l2 ⊢
 clear hwC hc4
 go_loopw [13] (fun vi wr=>∃ j:Nat,j≤n∧vi=.int .i64 j∧(∀ i,i < j→¬ badG (k i).val)∧∃ p q,Below c4 wC wr∧Thr wr c4 (.bool (ng (smallG (gl k j)).num)) (.slice p (ln (am (smallG (gl k j)).num)) (ln (am (smallG (gl k j)).num))) (.slice q (ln (smallG (gl k j)).den) (ln (smallG (gl k j)).den))∧Ow w.heap.size wr (smallG (gl k j)) p q) (fun vi _=>n - (intOf vi).toNat)
 case atStart=>exact ⟨0,Nat.zero_le _,rfl,fun i hi=>absurd hi (by omega),p0,q0,Below.refl _ _,by rw [hr1];exact v4,by rw [hr1];exact h1⟩
 case round =>
  clear v4 h1 hr1
  obtain ⟨j,hj,rfl,hbad,p,q,bL,vT,hr⟩:=hrel
  have hsz:=SZ.out j hj
  obtain ⟨r,hrr⟩:∃ r,smallG (gl k j)=r:=⟨_,rfl⟩
  rw [hrr] at vT hr hsz
  replace hrr:=hide' hrr
  have hBr:Below w.heap.size w wr:=hB.trans (bL.mono (Nat.le_of_lt l2))
  have v2r:Thr wr w.heap.size (.bool false) (.slice none 0 0) (.slice none 0 0):=⟨⟨(cell_low bL l2).trans v2.1.1,(cell_low bL l2).trans v2.1.2.1,(cell_low bL l2).trans v2.1.2.2⟩,v2.2.below bL l2⟩
  by_cases hlt:j < n
  ·obtain ⟨bb,off,rfl,hb,hcell⟩:=HA.out (by omega)
   obtain ⟨gk,hgk⟩:∃ gk,k j=gk:=⟨_,rfl⟩
   have hcj:=(hcell j hlt).later hBr
   obtain ⟨hok,htn⟩:=HK.out j hlt
   rw [hgk] at hcj hok htn
   obtain ⟨d0,d1,d2,d3,d4,d5,d6,d7,d8,d9,d10,d11⟩:=hcj
   rw [Nat.add_zero] at d0
   have j0:(0:Int)≤(j:Int):=by omega
   have j1:(j:Int) < (n:Int):=by omega
   have hcl:=vT.2.lt
   replace hok:=hok.on hBr
   clear hcell HA HK SZ
   obtain ⟨wG,hwG⟩:∃ wG,wr.alloc (.cells #[.bool gk.lo.a.s,.slice gk.lo.a.a gk.lo.a.n gk.lo.a.c,.slice gk.lo.a.b gk.lo.a.m gk.lo.a.e,.bool gk.lo.b.s,.slice gk.lo.b.a gk.lo.b.n gk.lo.b.c,.slice gk.lo.b.b gk.lo.b.m gk.lo.b.e,.bool gk.hi.a.s,.slice gk.hi.a.a gk.hi.a.n gk.hi.a.c,.slice gk.hi.a.b gk.hi.a.m gk.hi.a.e,.bool gk.hi.b.s,.slice gk.hi.b.a gk.hi.b.n gk.hi.b.c,.slice gk.hi.b.b gk.hi.b.m gk.hi.b.e] 48)=wG:=⟨_,rfl⟩
   have bG:Below wr.heap.size wr wG:=by subst hwG;exact below_alloc _
   have y0:wG.cell? ⟨wr.heap.size,0,none⟩=some (.bool gk.lo.a.s):=by subst hwG;go_simp
   have y1:wG.cell? ⟨wr.heap.size,1,none⟩=some (.slice gk.lo.a.a gk.lo.a.n gk.lo.a.c):=by subst hwG;go_simp
   have y2:wG.cell? ⟨wr.heap.size,2,none⟩=some (.slice gk.lo.a.b gk.lo.a.m gk.lo.a.e):=by subst hwG;go_simp
   have y3:wG.cell? ⟨wr.heap.size,3,none⟩=some (.bool gk.lo.b.s):=by subst hwG;go_simp
   have y4:wG.cell? ⟨wr.heap.size,4,none⟩=some (.slice gk.lo.b.a gk.lo.b.n gk.lo.b.c):=by subst hwG;go_simp
   have y5:wG.cell? ⟨wr.heap.size,5,none⟩=some (.slice gk.lo.b.b gk.lo.b.m gk.lo.b.e):=by subst hwG;go_simp
   have y6:wG.cell? ⟨wr.heap.size,6,none⟩=some (.bool gk.hi.a.s):=by subst hwG;go_simp
   have y7:wG.cell? ⟨wr.heap.size,7,none⟩=some (.slice gk.hi.a.a gk.hi.a.n gk.hi.a.c):=by subst hwG;go_simp
   have y8:wG.cell? ⟨wr.heap.size,8,none⟩=some (.slice gk.hi.a.b gk.hi.a.m gk.hi.a.e):=by subst hwG;go_simp
   have y9:wG.cell? ⟨wr.heap.size,9,none⟩=some (.bool gk.hi.b.s):=by subst hwG;go_simp
   have y10:wG.cell? ⟨wr.heap.size,10,none⟩=some (.slice gk.hi.b.a gk.hi.b.n gk.hi.b.c):=by subst hwG;go_simp
   have y11:wG.cell? ⟨wr.heap.size,11,none⟩=some (.slice gk.hi.b.b gk.hi.b.m gk.hi.b.e):=by subst hwG;go_simp
   have vG:=vT.later bG
   have hrG:=hr.on bG
   have hoG:=hok.on bG
   have v2G:=v2r.later bG
   have bLG:Below c4 wC wG:=bL.trans (bG.mono (Nat.le_of_lt hcl))
   clear vT hr hok v2r bG bL
   by_cases hbd:badG gk.val
   ·have G1:=hide' (look_bad gk c4 wG hoG htn hbd)
    go_wp2_with fail
    refine G1.out.mono ?_
    rintro e w5 ⟨rfl,b5⟩
    replace v2G:=v2G.later b5
    have bE:Below w.heap.size w w5:=hB.trans ((bLG.mono (Nat.le_of_lt l2)).trans (b5.mono (Nat.le_trans hB.size bLG.size)))
    have fz:=fun o=>v2G.2.frozen o
    have z0:=v2G.1.1
    have z1:=v2G.1.2.1
    have z2:=v2G.1.2.2
    have bE2:=below_set3 (u0:=.bool false) (u1:=.slice none 0 0) (u2:=.slice none 0 0) bE (Nat.le_refl _)
    replace bE2:=hide' bE2
    have rD:=v2G.put (u0:=.bool false) (u1:=.slice none 0 0) (u2:=.slice none 0 0)
    obtain ⟨⟨x0,x1,x2⟩,_⟩:=rD
    clear v2G vG hrG hoG bLG b5 bE hB v2
    go_wp2
    refine bodyPost_ret (v:=Value.tuple #[Value.agg #[Value.bool false,Value.slice none 0 0,Value.slice none 0 0],.int .i64 51]) (by rw [results_cell_tmp rfl];go_simp) rfl ?_
    exact Or.inr ⟨⟨j,hlt,by rw [hgk];exact hbd⟩,rfl,bE2.out⟩
   ·have G1:=hide' (lookO_ok gk c4 r p q wG hoG htn hbd vG w.heap.size (Nat.le_trans hB.size bLG.size) hrG hsz)
    go_wp2_with fail
    refine G1.out.mono ?_
    rintro e w5 ⟨rfl,p',q',b5,v5,h5⟩
    have I1:=hide' (show (∀ i,i < j+1→¬ badG (k i).val)∧∃ p q,Below c4 wC w5∧Thr w5 c4 (.bool (ng (smallG (gl k (j+1))).num)) (.slice p (ln (am (smallG (gl k (j+1))).num)) (ln (am (smallG (gl k (j+1))).num))) (.slice q (ln (smallG (gl k (j+1))).den) (ln (smallG (gl k (j+1))).den))∧Ow w.heap.size w5 (smallG (gl k (j+1))) p q by
     have e9:smallG (gl k (j+1))=stepG r gk.val:=by rw [gl_succ,smallG_snoc,hrr.out,hgk]
     rw [e9]
     refine ⟨fun i hi=>?_,p',q',bLG.trans b5,v5,h5⟩
     rcases Nat.lt_or_ge i j with h | h
     ·exact hbad i h
     ·obtain rfl:i=j:=by omega
      rw [hgk];exact hbd)
    clear v5 h5 b5 vG hrG hoG bLG v2G hbad
    go_wp2
    go_roundw
    case rel=>exact ⟨j+1,by omega,by go_num,I1.out⟩
    case measure=>simp [intOf];omega
  ·obtain rfl:j=n:=by omega
   have i1:¬ (j:Int) < (j:Int):=by omega
   have fz:=fun o=>v2r.2.frozen o
   have z0:=v2r.1.1
   have z1:=v2r.1.2.1
   have z2:=v2r.1.2.2
   have t0:=vT.1.1
   have t1:=vT.1.2.1
   have t2:=vT.1.2.2
   have hR2:=hide' (show Ow w.heap.size (set3 wr w.heap.size (.bool (ng r.num)) (.slice p (ln (am r.num)) (ln (am r.num))) (.slice q (ln r.den) (ln r.den))) r p q from hr.put v2r (by simp) (by simp) (by simp))
   have bE2:=hide' (below_set3 (u0:=.bool (ng r.num)) (u1:=.slice p (ln (am r.num)) (ln (am r.num))) (u2:=.slice q (ln r.den) (ln r.den)) hBr (Nat.le_refl _))
   have rD:=v2r.put (u0:=.bool (ng r.num)) (u1:=.slice p (ln (am r.num)) (ln (am r.num))) (u2:=.slice q (ln r.den) (ln r.den))
   obtain ⟨⟨x0,x1,x2⟩,_⟩:=rD
   clear v2r vT hr hBr bL hB v2
   go_wp2
   refine bodyPost_ret (v:=Value.tuple #[Value.agg #[Value.bool (ng r.num),Value.slice p (ln (am r.num)) (ln (am r.num)),Value.slice q (ln r.den) (ln r.den)],.int .i64 0]) (by rw [results_cell_tmp rfl];go_simp) rfl ?_
   rw [hrr.out]
   exact Or.inl ⟨hbad,p,q,rfl,bE2.out,hR2.out⟩
end Go.Proofs.YtfppjaoddicgpaaGreatDoor
