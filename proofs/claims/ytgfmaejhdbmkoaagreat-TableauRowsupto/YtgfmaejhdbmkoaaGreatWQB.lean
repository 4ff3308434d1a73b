import Derived.Test.YtgfmaejhdbmkoaaGreatWQ5
set_option linter.unusedSimpArgs false
namespace Go.Proofs.YtgfmaejhdbmkoaaGreat
open Go.RowKit
set_option linter.unusedVariables false
set_option maxHeartbeats 2000000 in
theorem qWhole_is (z:Int) (w:World) (h1:-9223372036854775808≤z) (h2:z≤9223372036854775807) :
  Calls Tryz.prog 88 #[.int .i64 z] w fun e w'=>∃ p q,e=.returned (.agg #[.bool (ng z),.slice p (ln (am z)) (ln (am z)),.slice q (ln 1) (ln 1)])∧New w w' p (am z) (ln (am z))∧New w w' q 1 (ln 1):=by
 have lz:ln (am z)≤2:=xQ4 (by rw [BB2];unfold am;omega)
 have l1:ln 1≤2:=by rw [ln_one];omega
 have H0:=xQ1 (fun w'=>wOf_is z w' h1 h2)
 obtain ⟨V,hV⟩:∃ V:Nat,1=V:=⟨_,rfl⟩
 have hL:Low (sg (ng z) (am z)) (V:Int) z V:=by rw [sg_na,←hV];exact Low.self (by omega) (by simp)
 have H1':=fun w'=>wOf_is 1 w' (by omega) (by omega)
 rw [show ng 1=false from rfl,show am 1=1 from rfl] at H1'
 rw [hV] at l1
 have H1:∀ w',Calls Tryz.prog 102 #[.int .i64 1] w' fun e w''=>∃ ao',e=.returned (.agg #[.bool false,.slice ao' (ln V) (ln V)])∧New w' w'' ao' V (ln V):=by rw [←hV];exact H1'
 have G1:=xQ1 H1
 have H2:=xQ1 (fun w' p q k1 k2=>lowest_is (ng z) p (ln (am z)) (ln (am z)) (am z) q (ln V) (ln V) V V z w' (Nat.le_refl _) (by omega) k1 (Nat.le_refl _) (by omega) k2 hL)
 rw [show ln 1=ln V by rw [hV]]
 have e1:∀ w' q,New w w' q 1 (ln V)↔New w w' q V (ln V):=fun w' q=>by rw [←hV]
 simp only [e1]
 clear H1' H1 hL hV h1 h2 e1
 go_enter Tryz.func88,Tryz.ntmps88
 go_wp2_with fail
 obtain ⟨W,hW⟩:∃ W,(w.alloc (.cells #[.bool false,.slice none 0 0,.slice none 0 0] 55))=W:=⟨_,rfl⟩
 have r00:W.cell? ⟨w.heap.size,0,none⟩=some (.bool false):=by subst hW;go_simp
 have r01:W.cell? ⟨w.heap.size,1,none⟩=some (.slice none 0 0):=by subst hW;go_simp
 have r02:W.cell? ⟨w.heap.size,2,none⟩=some (.slice none 0 0):=by subst hW;go_simp
 have hB:Below w.heap.size w W:=by subst hW;exact ((Below.refl _ _).alloc (by (try simp only [World.size_alloc]);omega) _)
 have hR0:Row W (w.heap.size):=by
  have:=xQ9 (w) #[.bool false,.slice none 0 0,.slice none 0 0] 55
  try simp only [World.size_alloc] at this
  subst hW;exact this
 have hz:W.heap.size=w.heap.size+1:=by subst hW;simp only [World.size_alloc]
 rw [hW]
 clear hW
 have hBW:Below W.heap.size W W:=Below.refl _ _
 refine (H0.out _).mono ?_
 rintro e w1 ⟨a1,rfl,h1⟩
 have b1:=h1.below
 replace h1:=h1.back hBW
 replace hBW:=hBW.trans (b1.mono hBW.size)
 replace r00:=xQ0 b1 r00
 replace r01:=xQ0 b1 r01
 replace r02:=xQ0 b1 r02
 replace hR0:=xQ3 b1 hR0
 go_wp2_with fail
 refine (G1.out _).mono ?_
 rintro e w2 ⟨a2,rfl,h2⟩
 have b2:=h2.below
 replace h2:=h2.back hBW
 replace hBW:=hBW.trans (b2.mono hBW.size)
 replace r00:=xQ0 b2 r00
 replace r01:=xQ0 b2 r01
 replace r02:=xQ0 b2 r02
 replace hR0:=xQ3 b2 hR0
 replace h1:=h1.later b2
 go_wp2_with fail
 refine (H2.out _ a1 a2 h1.seg h2.seg).mono ?_
 rintro e w3 ⟨p3,q3,rfl,hp3,hq3⟩
 have b3:=hp3.below
 replace hp3:=hp3.back hBW
 replace hq3:=hq3.back hBW
 replace hBW:=hBW.trans (b3.mono hBW.size)
 replace r00:=xQ0 b3 r00
 replace r01:=xQ0 b3 r01
 replace r02:=xQ0 b3 r02
 replace hR0:=xQ3 b3 hR0
 replace h1:=h1.later b3
 replace h2:=h2.later b3
 have fz0:=fun o=>hR0.frozen o
 go_wp2
 all_goals refine bodyPost_ret (v:=Value.agg #[Value.bool (ng z),Value.slice p3 (ln (am z)) (ln (am z)),Value.slice q3 (ln V) (ln V)]) (by rw [xQ5 rfl];go_simp) rfl ?_
 all_goals exact ⟨p3,q3,rfl,hp3.mid hB (((((Mid.refl _ _ _).set _ _ (by omega) (by omega) _).set _ _ (by omega) (by omega) _).set _ _ (by omega) (by omega) _)),hq3.mid hB (((((Mid.refl _ _ _).set _ _ (by omega) (by omega) _).set _ _ (by omega) (by omega) _).set _ _ (by omega) (by omega) _))⟩
end Go.Proofs.YtgfmaejhdbmkoaaGreat
