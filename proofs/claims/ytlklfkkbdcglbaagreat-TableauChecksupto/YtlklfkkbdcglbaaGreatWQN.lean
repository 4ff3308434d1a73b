import Derived.Test.YtlklfkkbdcglbaaGreatWQ2
set_option linter.unusedSimpArgs false
namespace Go.Proofs.YtlklfkkbdcglbaaGreat
open Go.RowKit
set_option linter.unusedVariables false
set_option maxHeartbeats 4000000 in
set_option maxRecDepth 100000 in
theorem qNorm_is (s0:Bool) (a0:Option Addr) (n0 c0 X0:Nat) (b0:Option Addr) (m0 d0 Y0:Nat) (Z:Int) (V:Nat) (w:World) (hc0:n0≤c0) (hm0:n0≤70368744177000) (hS0:Seg w a0 X0 n0) (hd0:m0≤d0) (hk0:m0≤70368744177000) (hT0:Seg w b0 Y0 m0) (hL:Low (rn s0 X0 Y0) (rd Y0:Nat) Z V) :
  Calls Tryz.prog 105 #[Value.agg #[Value.bool s0,Value.slice a0 n0 c0,Value.slice b0 m0 d0]] w fun e w'=>∃ p q,e=.returned (.agg #[.bool (ng Z),.slice p (ln (am Z)) (ln (am Z)),.slice q (ln V) (ln V)])∧New w w' p (am Z) (ln (am Z))∧New w w' q V (ln V):=by
 have HL:=hide' hL
 clear hL
 go_enter Tryz.func105,Tryz.ntmps105
 go_wp2_with fail
 obtain ⟨W,hW⟩:∃ W,((w.alloc (.cells #[.bool s0,.slice a0 n0 c0,.slice b0 m0 d0] 74)).alloc (.cells #[.bool false,.slice none 0 0,.slice none 0 0] 74))=W:=⟨_,rfl⟩
 have q00:W.cell? ⟨w.heap.size,0,none⟩=some (.bool s0):=by subst hW;go_simp
 have q01:W.cell? ⟨w.heap.size,1,none⟩=some (.slice a0 n0 c0):=by subst hW;go_simp
 have q02:W.cell? ⟨w.heap.size,2,none⟩=some (.slice b0 m0 d0):=by subst hW;go_simp
 have r00:W.cell? ⟨w.heap.size+1,0,none⟩=some (.bool false):=by subst hW;go_simp
 have r01:W.cell? ⟨w.heap.size+1,1,none⟩=some (.slice none 0 0):=by subst hW;go_simp
 have r02:W.cell? ⟨w.heap.size+1,2,none⟩=some (.slice none 0 0):=by subst hW;go_simp
 have hB:Below w.heap.size w W:=by subst hW;exact (((Below.refl _ _).alloc (by (try simp only [World.size_alloc]);omega) _).alloc (by (try simp only [World.size_alloc]);omega) _)
 have hR0:Row W (w.heap.size+1):=by
  have:=row_new ((w.alloc (.cells #[.bool s0,.slice a0 n0 c0,.slice b0 m0 d0] 74))) #[.bool false,.slice none 0 0,.slice none 0 0] 74
  try simp only [World.size_alloc] at this
  subst hW;exact this
 have hz:W.heap.size=w.heap.size+1+1:=by subst hW;simp only [World.size_alloc]
 rw [hW]
 clear hW
 have hBW:Below W.heap.size W W:=Below.refl _ _
 go_wp2_with fail
 refine (read_is s0 a0 n0 c0 X0 b0 m0 d0 Y0 70368744177000 _ hc0 hm0 (sb hS0 hB hBW) hd0 hk0 (sb hT0 hB hBW) (by omega) (by omega)).mono ?_
 rintro e w41 ⟨zs41,zp41,zn41,zc41,zX41,zq41,zm41,zd41,rfl,ga41,gb41,gc41,gd41,kS41,kT41,ge41,bb41⟩
 have b41:=bb41
 replace hBW:=hBW.trans (b41.mono hBW.size)
 replace q00:=below_cell b41 q00
 replace q01:=below_cell b41 q01
 replace q02:=below_cell b41 q02
 replace r00:=below_cell b41 r00
 replace r01:=below_cell b41 r01
 replace r02:=below_cell b41 r02
 replace hR0:=below_row b41 hR0
 go_wp2_with fail
 refine (lowest_is zs41 zp41 zn41 zc41 zX41 zq41 zm41 zd41 (rd Y0) V Z _ ga41 (by omega) kS41 gc41 (by omega) kT41 (by rw [ge41];exact HL.out)).mono ?_
 rintro e w42 ⟨p42,q42,rfl,hp42,hq42⟩
 have b42:=hp42.below
 replace hp42:=hp42.back hBW
 replace hq42:=hq42.back hBW
 replace hBW:=hBW.trans (b42.mono hBW.size)
 replace q00:=below_cell b42 q00
 replace q01:=below_cell b42 q01
 replace q02:=below_cell b42 q02
 replace r00:=below_cell b42 r00
 replace r01:=below_cell b42 r01
 replace r02:=below_cell b42 r02
 replace hR0:=below_row b42 hR0
 replace kS41:=kS41.later b42
 replace kT41:=kT41.later b42
 have fz0:=fun o=>hR0.frozen o
 go_wp2
 all_goals refine bodyPost_ret (v:=Value.agg #[Value.bool (ng Z),Value.slice p42 (ln (am Z)) (ln (am Z)),Value.slice q42 (ln V) (ln V)]) (by rw [results_cell rfl];go_simp) rfl ?_
 all_goals exact ⟨p42,q42,rfl,hp42.mid hB (((((Mid.refl _ _ _).set _ _ (by omega) (by omega) _).set _ _ (by omega) (by omega) _).set _ _ (by omega) (by omega) _)),hq42.mid hB (((((Mid.refl _ _ _).set _ _ (by omega) (by omega) _).set _ _ (by omega) (by omega) _).set _ _ (by omega) (by omega) _))⟩
theorem run_fieldF (v0 v1 v2 v3:Value) (w:World):(Instr.field 152 (.agg #[v0,v1,v2,v3]) 0).run Tryz.prog w=.ok (.agg #[v0,v1]) w:=by kernel_rfl
set_option maxHeartbeats 4000000 in
set_option maxRecDepth 100000 in
theorem qSign_is (s0:Bool) (a0:Option Addr) (n0 c0 X0:Nat) (b0:Option Addr) (m0 d0 Y0:Nat) (C:Int) (w:World) (hc0:n0≤c0) (hm0:n0≤70368744177000) (hS0:Seg w a0 X0 n0) (hd0:m0≤d0) (hk0:m0≤70368744177000) (hT0:Seg w b0 Y0 m0) (hC:sgn (rn s0 X0 Y0)=C) :
  Calls Tryz.prog 176 #[Value.agg #[Value.bool s0,Value.slice a0 n0 c0,Value.slice b0 m0 d0]] w fun e w'=>e=.returned (.int .i64 C)∧Below w.heap.size w w':=by
 have HC:=hide' hC
 have hf:=run_fieldF
 clear hC
 go_enter Tryz.func176,Tryz.ntmps176
 go_wp2_with fail
 obtain ⟨W,hW⟩:∃ W,(w.alloc (.cells #[.bool s0,.slice a0 n0 c0,.slice b0 m0 d0] 74))=W:=⟨_,rfl⟩
 have q00:W.cell? ⟨w.heap.size,0,none⟩=some (.bool s0):=by subst hW;go_simp
 have q01:W.cell? ⟨w.heap.size,1,none⟩=some (.slice a0 n0 c0):=by subst hW;go_simp
 have q02:W.cell? ⟨w.heap.size,2,none⟩=some (.slice b0 m0 d0):=by subst hW;go_simp
 have hB:Below w.heap.size w W:=by subst hW;exact ((Below.refl _ _).alloc (by (try simp only [World.size_alloc]);omega) _)
 have hz:W.heap.size=w.heap.size+1:=by subst hW;simp only [World.size_alloc]
 rw [hW]
 clear hW
 have hBW:Below W.heap.size W W:=Below.refl _ _
 go_wp2_with fail
 refine (read_is s0 a0 n0 c0 X0 b0 m0 d0 Y0 70368744177000 _ hc0 hm0 (sb hS0 hB hBW) hd0 hk0 (sb hT0 hB hBW) (by omega) (by omega)).mono ?_
 rintro e w41 ⟨zs41,zp41,zn41,zc41,zX41,zq41,zm41,zd41,rfl,ga41,gb41,gc41,gd41,kS41,kT41,ge41,bb41⟩
 have b41:=bb41
 replace hBW:=hBW.trans (b41.mono hBW.size)
 replace q00:=below_cell b41 q00
 replace q01:=below_cell b41 q01
 replace q02:=below_cell b41 q02
 have hs:sgn (sg zs41 zX41)=C:=by rw [ge41];exact HC.out
 have HS':=fun w' k=>wSign_is zs41 zp41 zn41 zc41 zX41 _ w' ga41 (by omega) k rfl
 rw [hs] at HS'
 have HS:=hide' HS'
 clear hs HS'
 go_wp2_with fail
 refine (HS.out _ kS41).mono ?_
 rintro e w42 ⟨rfl,b42⟩
 replace hBW:=hBW.trans (b42.mono hBW.size)
 replace q00:=below_cell b42 q00
 replace q01:=below_cell b42 q01
 replace q02:=below_cell b42 q02
 replace kS41:=kS41.later b42
 replace kT41:=kT41.later b42
 go_wp2
 go_ret
 exact ⟨rfl,hB.trans (hBW.mono hB.size)⟩
end Go.Proofs.YtlklfkkbdcglbaaGreat
