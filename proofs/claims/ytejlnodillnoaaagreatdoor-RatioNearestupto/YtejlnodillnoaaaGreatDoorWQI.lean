import Derived.Test.YtejlnodillnoaaaGreatDoorWQ6
import Derived.Test.YtejlnodillnoaaaGreatDoorWQ7
import Derived.Test.YtejlnodillnoaaaGreatDoorThr3
set_option linter.unusedSimpArgs false
namespace Go.Proofs.YtejlnodillnoaaaGreatDoor
open Go.RowKit
set_option linter.unusedVariables false
set_option maxHeartbeats 2000000 in
set_option maxRecDepth 100000 in
theorem vqInt_is (z:Int) (p0:Option Addr) (w:World) (lz:ln (am z)≤4398046511104) (hS:Seg w p0 (am z) (ln (am z))) :
  Calls Tryz.prog 31 #[.agg #[.bool (ng z),.slice p0 (ln (am z)) (ln (am z))]] w fun e w'=>∃ p q,e=.returned (.agg #[.bool (ng z),.slice p (ln (am z)) (ln (am z)),.slice q (ln 1) (ln 1)])∧New w w' p (am z) (ln (am z))∧New w w' q 1 (ln 1):=by
 have hL:Low (rn (ng z) (am z) 1) ((rd 1:Nat):Int) z 1:=Low.nf (Low.self (by omega) (by simp)) (by omega)
 obtain ⟨V,hV⟩:∃ V:Nat,1=V:=⟨_,rfl⟩
 have P2:∀ w' p q,Seg w' p (am z) (ln (am z))→Seg w' q 1 1→Calls Tryz.prog 14 #[.agg #[.bool (ng z),.slice p (ln (am z)) (ln (am z)),.slice q 1 1]] w' fun e w''=>∃ p q,e=.returned (.agg #[.bool (ng z),.slice p (ln (am z)) (ln (am z)),.slice q (ln V) (ln V)])∧New w' w'' p (am z) (ln (am z))∧New w' w'' q V (ln V):=fun w' p q k1 k2=>by
  subst hV
  exact vqNorm_is (ng z) p (ln (am z)) (ln (am z)) (am z) q 1 1 1 1 z w' (by omega) k1 (by omega) k2 hL
 have H2:=hide' P2
 rw [show ln 1=ln V by rw [hV]]
 have e1:∀ w' q,New w w' q 1 (ln V)↔New w w' q V (ln V):=fun w' q=>by rw [←hV]
 simp only [e1]
 clear P2 hL hV e1
 have bA:=(below_alloc (w:=w) (.cells #[.bool (ng z),.slice p0 (ln (am z)) (ln (am z))] 25)).alloc (by simp) (.cells #[.bool false,.slice none 0 0,.slice none 0 0] 27)
 have n9:=single_new ((w.alloc (.cells #[.bool (ng z),.slice p0 (ln (am z)) (ln (am z))] 25)).alloc (.cells #[.bool false,.slice none 0 0,.slice none 0 0] 27)) 1 60 1 (by omega) rfl
 simp only [World.size_alloc] at n9
 have bB:=n9.below
 have v9:Thr ((w.alloc (.cells #[.bool (ng z),.slice p0 (ln (am z)) (ln (am z))] 25)).alloc (.cells #[.bool false,.slice none 0 0,.slice none 0 0] 27)) (w.heap.size+1) (.bool false) (.slice none 0 0) (.slice none 0 0) :=
  ⟨⟨by go_simp,by go_simp,by go_simp⟩,by have:=row_new (w.alloc (.cells #[.bool (ng z),.slice p0 (ln (am z)) (ln (am z))] 25)) #[.bool false,.slice none 0 0,.slice none 0 0] 27;rwa [World.size_alloc] at this⟩
 have v8:=v9.later bB
 have b8:=bA.trans (bB.mono bA.size)
 have G2:=hide' (H2.out _ p0 _ ((hS.later bA).later bB) n9.seg)
 clear H2 v9 bA bB n9 hS
 go_enter Tryz.func31,Tryz.ntmps31
 go_wp2_with (go_at_call 14;refine G2.out.mono ?_;rintro e w2 ⟨p,q,rfl,hp,hq⟩;have v7:=v8.later hp.below;have b7:=b8.trans (hp.below.mono b8.size);replace hp:=hp.back b8;replace hq:=hq.back b8;clear G2 v8 b8;have z0:=v7.1.1;have z1:=v7.1.2.1;have z2:=v7.1.2.2;have fz:=fun o=>v7.2.frozen o)
 have v6:=v7.put (u0:=.bool (ng z)) (u1:=.slice p (ln (am z)) (ln (am z))) (u2:=.slice q (ln V) (ln V))
 have s1:=v7.seg (u0:=.bool (ng z)) (u1:=.slice p (ln (am z)) (ln (am z))) (u2:=.slice q (ln V) (ln V)) (by simp) (by simp) (by simp) hp.seg
 have s2:=v7.seg (u0:=.bool (ng z)) (u1:=.slice p (ln (am z)) (ln (am z))) (u2:=.slice q (ln V) (ln V)) (by simp) (by simp) (by simp) hq.seg
 have b6:=below_set3 (c:=w.heap.size+1) (u0:=.bool (ng z)) (u1:=.slice p (ln (am z)) (ln (am z))) (u2:=.slice q (ln V) (ln V)) b7 (by omega)
 clear z0 z1 z2 fz
 have z0:=v6.1.1
 have z1:=v6.1.2.1
 have z2:=v6.1.2.2
 unfold set3 at z0 z1 z2
 refine bodyPost_ret (v:=.agg #[.bool (ng z),.slice p (ln (am z)) (ln (am z)),.slice q (ln V) (ln V)]) (by rw [results_cell rfl];go_simp) rfl ?_
 exact ⟨p,q,rfl,⟨s1,b6,fun hn=>by obtain ⟨b,off,e,hl,hr⟩:=hp.fresh hn;exact ⟨b,off,e,hl,((hr.setCell _ _).setCell _ _).setCell _ _⟩⟩,⟨s2,b6,fun hn=>by obtain ⟨b,off,e,hl,hr⟩:=hq.fresh hn;exact ⟨b,off,e,hl,((hr.setCell _ _).setCell _ _).setCell _ _⟩⟩⟩
end Go.Proofs.YtejlnodillnoaaaGreatDoor
