import Derived.Test.YtlklfkkbdcglbaaGreatWQ7
import Derived.Test.YtlklfkkbdcglbaaGreatWQN
set_option linter.unusedSimpArgs false
namespace Go.Proofs.YtlklfkkbdcglbaaGreat
open Go.RowKit
set_option linter.unusedVariables false
set_option maxHeartbeats 2000000 in
set_option maxRecDepth 100000 in
theorem vqWhole_is (z:Int) (w:World) (h1:-9223372036854775808≤z) (h2:z≤9223372036854775807) :
  Calls Tryz.prog 64 #[.int .i64 z] w fun e w'=>∃ p q,e=.returned (.agg #[.bool (ng z),.slice p (ln (am z)) (ln (am z)),.slice q (ln 1) (ln 1)])∧New w w' p (am z) (ln (am z))∧New w w' q 1 (ln 1):=by
 have lz:ln (am z)≤2:=ln_le_of_lt (by rw [BB2];unfold am;omega)
 have H0:=hide' (fun w'=>vOf_is z w' h1 h2)
 have hL:Low (rn (ng z) (am z) 1) ((rd 1:Nat):Int) z 1:=Low.nf (Low.self (by omega) (by simp)) (by omega)
 obtain ⟨V,hV⟩:∃ V:Nat,1=V:=⟨_,rfl⟩
 have P2:∀ w' p q,Seg w' p (am z) (ln (am z))→Seg w' q 1 1→Calls Tryz.prog 71 #[.agg #[.bool (ng z),.slice p (ln (am z)) (ln (am z)),.slice q 1 1]] w' fun e w''=>∃ p q,e=.returned (.agg #[.bool (ng z),.slice p (ln (am z)) (ln (am z)),.slice q (ln V) (ln V)])∧New w' w'' p (am z) (ln (am z))∧New w' w'' q V (ln V):=fun w' p q k1 k2=>by
  subst hV
  exact vqNorm_is (ng z) p (ln (am z)) (ln (am z)) (am z) q 1 1 1 1 z w' (by omega) k1 (by omega) k2 hL
 have H2:=hide' P2
 rw [show ln 1=ln V by rw [hV]]
 have e1:∀ w' q,New w w' q 1 (ln V)↔New w w' q V (ln V):=fun w' q=>by rw [←hV]
 simp only [e1]
 clear P2 hL hV h1 h2 e1
 go_enter Tryz.func64,Tryz.ntmps64
 go_wp2_with fail
 obtain ⟨W,hW⟩:∃ W,(w.alloc (.cells #[.bool false,.slice none 0 0,.slice none 0 0] 74))=W:=⟨_,rfl⟩
 have r00:W.cell? ⟨w.heap.size,0,none⟩=some (.bool false):=by subst hW;go_simp
 have r01:W.cell? ⟨w.heap.size,1,none⟩=some (.slice none 0 0):=by subst hW;go_simp
 have r02:W.cell? ⟨w.heap.size,2,none⟩=some (.slice none 0 0):=by subst hW;go_simp
 have hB:Below w.heap.size w W:=by subst hW;exact ((Below.refl _ _).alloc (by (try simp only [World.size_alloc]);omega) _)
 have hR0:Row W (w.heap.size):=by
  have:=row_new (w) #[.bool false,.slice none 0 0,.slice none 0 0] 74
  try simp only [World.size_alloc] at this
  subst hW;exact this
 have hz:W.heap.size=w.heap.size+1:=by subst hW;simp only [World.size_alloc]
 rw [hW]
 clear hW
 have hBW:Below W.heap.size W W:=Below.refl _ _
 refine (H0.out _).mono ?_
 rintro e w1 ⟨a1,rfl,h1⟩
 have b1:=h1.below
 replace h1:=h1.back hBW
 replace hBW:=hBW.trans (b1.mono hBW.size)
 replace r00:=below_cell b1 r00
 replace r01:=below_cell b1 r01
 replace r02:=below_cell b1 r02
 replace hR0:=below_row b1 hR0
 have n9:=single_new w1 1 123 1 (by omega) rfl
 have b9:=n9.below
 replace hBW:=hBW.trans (b9.mono hBW.size)
 replace r00:=below_cell b9 r00
 replace r01:=below_cell b9 r01
 replace r02:=below_cell b9 r02
 replace hR0:=below_row b9 hR0
 replace h1:=h1.later b9
 have G2:=hide' (H2.out _ a1 _ h1.seg n9.seg)
 go_wp2_with fail
 refine (G2.out).mono ?_
 rintro e w2 ⟨p2,q2,rfl,hp2,hq2⟩
 have b2:=hp2.below
 replace hp2:=hp2.back hBW
 replace hq2:=hq2.back hBW
 replace hBW:=hBW.trans (b2.mono hBW.size)
 replace r00:=below_cell b2 r00
 replace r01:=below_cell b2 r01
 replace r02:=below_cell b2 r02
 replace hR0:=below_row b2 hR0
 replace h1:=h1.later b2
 have fz0:=fun o=>hR0.frozen o
 go_wp2
 all_goals refine bodyPost_ret (v:=Value.agg #[Value.bool (ng z),Value.slice p2 (ln (am z)) (ln (am z)),Value.slice q2 (ln V) (ln V)]) (by rw [results_cell rfl];go_simp) rfl ?_
 all_goals exact ⟨p2,q2,rfl,hp2.mid hB (((((Mid.refl _ _ _).set _ _ (by omega) (by omega) _).set _ _ (by omega) (by omega) _).set _ _ (by omega) (by omega) _)),hq2.mid hB (((((Mid.refl _ _ _).set _ _ (by omega) (by omega) _).set _ _ (by omega) (by omega) _).set _ _ (by omega) (by omega) _))⟩
end Go.Proofs.YtlklfkkbdcglbaaGreat
