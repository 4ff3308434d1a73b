import Derived.Test.YtgfmaejhdbmkoaaGreatWQ2
import Derived.Test.YtgfmaejhdbmkoaaGreatWQ7
set_option linter.unusedSimpArgs false
namespace Go.Proofs.YtgfmaejhdbmkoaaGreat
open Go.RowKit
set_option linter.unusedVariables false
set_option maxHeartbeats 4000000 in
set_option maxRecDepth 100000 in
theorem qNorm_is (s0:Bool) (a0:Option Addr) (n0 c0 X0:Nat) (b0:Option Addr) (m0 d0 Y0:Nat) (Z:Int) (V:Nat) (w:World) (hc0:n0≤c0) (hm0:n0≤70368744177000) (hS0:Seg w a0 X0 n0) (hd0:m0≤d0) (hk0:m0≤70368744177000) (hT0:Seg w b0 Y0 m0) (hL:Low (rn s0 X0 Y0) (rd Y0:Nat) Z V) :
  Calls Tryz.prog 53 #[Value.agg #[Value.bool s0,Value.slice a0 n0 c0,Value.slice b0 m0 d0]] w fun e w'=>∃ p q,e=.returned (.agg #[.bool (ng Z),.slice p (ln (am Z)) (ln (am Z)),.slice q (ln V) (ln V)])∧New w w' p (am Z) (ln (am Z))∧New w w' q V (ln V):=by
 have HL:=xQ1 hL
 clear hL
 go_enter Tryz.func53,Tryz.ntmps53
 go_wp2_with fail
 obtain ⟨W,hW⟩:∃ W,((w.alloc (.cells #[.bool s0,.slice a0 n0 c0,.slice b0 m0 d0] 55)).alloc (.cells #[.bool false,.slice none 0 0,.slice none 0 0] 55))=W:=⟨_,rfl⟩
 have q00:W.cell? ⟨w.heap.size,0,none⟩=some (.bool s0):=by subst hW;go_simp
 have q01:W.cell? ⟨w.heap.size,1,none⟩=some (.slice a0 n0 c0):=by subst hW;go_simp
 have q02:W.cell? ⟨w.heap.size,2,none⟩=some (.slice b0 m0 d0):=by subst hW;go_simp
 have r00:W.cell? ⟨w.heap.size+1,0,none⟩=some (.bool false):=by subst hW;go_simp
 have r01:W.cell? ⟨w.heap.size+1,1,none⟩=some (.slice none 0 0):=by subst hW;go_simp
 have r02:W.cell? ⟨w.heap.size+1,2,none⟩=some (.slice none 0 0):=by subst hW;go_simp
 have hB:Below w.heap.size w W:=by subst hW;exact (((Below.refl _ _).alloc (by (try simp only [World.size_alloc]);omega) _).alloc (by (try simp only [World.size_alloc]);omega) _)
 have hR0:Row W (w.heap.size+1):=by
  have:=xQ9 ((w.alloc (.cells #[.bool s0,.slice a0 n0 c0,.slice b0 m0 d0] 55))) #[.bool false,.slice none 0 0,.slice none 0 0] 55
  try simp only [World.size_alloc] at this
  subst hW;exact this
 have hz:W.heap.size=w.heap.size+1+1:=by subst hW;simp only [World.size_alloc]
 rw [hW]
 clear hW
 have hBW:Below W.heap.size W W:=Below.refl _ _
 go_wp2_with fail
 refine (read_is s0 a0 n0 c0 X0 b0 m0 d0 Y0 70368744177000 _ hc0 hm0 (sb hS0 hB hBW) hd0 hk0 (sb hT0 hB hBW) (by omega) (by omega)).mono ?_
 rintro e w41 ⟨zs41,zp41,zn41,zc41,zX41,zq41,zm41,zd41,rfl,ga41,gb41,gc41,gd41,kS41,kT41,ge41,bb41⟩
 have b41:=bb41
 replace hBW:=hBW.trans (b41.mono hBW.size)
 replace q00:=xQ0 b41 q00
 replace q01:=xQ0 b41 q01
 replace q02:=xQ0 b41 q02
 replace r00:=xQ0 b41 r00
 replace r01:=xQ0 b41 r01
 replace r02:=xQ0 b41 r02
 replace hR0:=xQ3 b41 hR0
 go_wp2_with fail
 refine (lowest_is zs41 zp41 zn41 zc41 zX41 zq41 zm41 zd41 (rd Y0) V Z _ ga41 (by omega) kS41 gc41 (by omega) kT41 (by rw [ge41];exact HL.out)).mono ?_
 rintro e w42 ⟨p42,q42,rfl,hp42,hq42⟩
 have b42:=hp42.below
 replace hp42:=hp42.back hBW
 replace hq42:=hq42.back hBW
 replace hBW:=hBW.trans (b42.mono hBW.size)
 replace q00:=xQ0 b42 q00
 replace q01:=xQ0 b42 q01
 replace q02:=xQ0 b42 q02
 replace r00:=xQ0 b42 r00
 replace r01:=xQ0 b42 r01
 replace r02:=xQ0 b42 r02
 replace hR0:=xQ3 b42 hR0
 replace kS41:=kS41.later b42
 replace kT41:=kT41.later b42
 have fz0:=fun o=>hR0.frozen o
 go_wp2
 all_goals refine bodyPost_ret (v:=Value.agg #[Value.bool (ng Z),Value.slice p42 (ln (am Z)) (ln (am Z)),Value.slice q42 (ln V) (ln V)]) (by rw [xQ5 rfl];go_simp) rfl ?_
 all_goals exact ⟨p42,q42,rfl,hp42.mid hB (((((Mid.refl _ _ _).set _ _ (by omega) (by omega) _).set _ _ (by omega) (by omega) _).set _ _ (by omega) (by omega) _)),hq42.mid hB (((((Mid.refl _ _ _).set _ _ (by omega) (by omega) _).set _ _ (by omega) (by omega) _).set _ _ (by omega) (by omega) _))⟩
theorem run_fieldF (v0 v1 v2 v3:Value) (w:World):(Instr.field 111 (.agg #[v0,v1,v2,v3]) 0).run Tryz.prog w=.ok (.agg #[v0,v1]) w:=by kernel_rfl
set_option maxHeartbeats 4000000 in
set_option maxRecDepth 100000 in
theorem qSign_is (s0:Bool) (a0:Option Addr) (n0 c0 X0:Nat) (b0:Option Addr) (m0 d0 Y0:Nat) (C:Int) (w:World) (hc0:n0≤c0) (hm0:n0≤70368744177000) (hS0:Seg w a0 X0 n0) (hd0:m0≤d0) (hk0:m0≤70368744177000) (hT0:Seg w b0 Y0 m0) (hC:sgn (rn s0 X0 Y0)=C) :
  Calls Tryz.prog 94 #[Value.agg #[Value.bool s0,Value.slice a0 n0 c0,Value.slice b0 m0 d0]] w fun e w'=>e=.returned (.int .i64 C)∧Below w.heap.size w w':=by
 have HC:=xQ1 hC
 have hf:=run_fieldF
 clear hC
 go_enter Tryz.func94,Tryz.ntmps94
 go_wp2_with fail
 obtain ⟨W,hW⟩:∃ W,(w.alloc (.cells #[.bool s0,.slice a0 n0 c0,.slice b0 m0 d0] 55))=W:=⟨_,rfl⟩
 have q00:W.cell? ⟨w.heap.size,0,none⟩=some (.bool s0):=by subst hW;go_simp
 have q01:W.cell? ⟨w.heap.size,1,none⟩=some (.slice a0 n0 c0):=by subst hW;go_simp
 have q02:W.cell? ⟨w.heap.size,2,none⟩=some (.slice b0 m0 d0):=by subst hW;go_simp
 have hB:Below w.heap.size w W:=by subst hW;exact ((Below.refl _ _).alloc (by (try simp only [World.size_alloc]);omega) _)
 have hz:W.heap.size=w.heap.size+1:=by subst hW;simp only [World.size_alloc]
 rw [hW]
 clear hW
 have hBW:Below W.heap.size W W:=Below.refl _ _
 go_wp2_with fail
 refine (read_is s0 a0 n0 c0 X0 b0 m0 d0 Y0 70368744177000 _ hc0 hm0 (sb hS0 hB hBW) hd0 hk0 (sb hT0 hB hBW) (by omega) (by omega)).mono ?_
 rintro e w41 ⟨zs41,zp41,zn41,zc41,zX41,zq41,zm41,zd41,rfl,ga41,gb41,gc41,gd41,kS41,kT41,ge41,bb41⟩
 have b41:=bb41
 replace hBW:=hBW.trans (b41.mono hBW.size)
 replace q00:=xQ0 b41 q00
 replace q01:=xQ0 b41 q01
 replace q02:=xQ0 b41 q02
 have hs:sgn (sg zs41 zX41)=C:=by rw [ge41];exact HC.out
 have HS':=fun w' k=>wSign_is zs41 zp41 zn41 zc41 zX41 _ w' ga41 (by omega) k rfl
 rw [hs] at HS'
 have HS:=xQ1 HS'
 clear hs HS'
 go_wp2_with fail
 refine (HS.out _ kS41).mono ?_
 rintro e w42 ⟨rfl,b42⟩
 replace hBW:=hBW.trans (b42.mono hBW.size)
 replace q00:=xQ0 b42 q00
 replace q01:=xQ0 b42 q01
 replace q02:=xQ0 b42 q02
 replace kS41:=kS41.later b42
 replace kT41:=kT41.later b42
 go_wp2
 go_ret
 exact ⟨rfl,hB.trans (hBW.mono hB.size)⟩
set_option maxHeartbeats 2000000 in
set_option maxRecDepth 100000 in
theorem vqWhole_is (z:Int) (w:World) (h1:-9223372036854775808≤z) (h2:z≤9223372036854775807) :
  Calls Tryz.prog 49 #[.int .i64 z] w fun e w'=>∃ p q,e=.returned (.agg #[.bool (ng z),.slice p (ln (am z)) (ln (am z)),.slice q (ln 1) (ln 1)])∧New w w' p (am z) (ln (am z))∧New w w' q 1 (ln 1):=by
 have lz:ln (am z)≤2:=xQ4 (by rw [BB2];unfold am;omega)
 have H0:=xQ1 (fun w'=>vOf_is z w' h1 h2)
 have hL:Low (rn (ng z) (am z) 1) ((rd 1:Nat):Int) z 1:=Low.nf (Low.self (by omega) (by simp)) (by omega)
 obtain ⟨V,hV⟩:∃ V:Nat,1=V:=⟨_,rfl⟩
 have P2:∀ w' p q,Seg w' p (am z) (ln (am z))→Seg w' q 1 1→Calls Tryz.prog 44 #[.agg #[.bool (ng z),.slice p (ln (am z)) (ln (am z)),.slice q 1 1]] w' fun e w''=>∃ p q,e=.returned (.agg #[.bool (ng z),.slice p (ln (am z)) (ln (am z)),.slice q (ln V) (ln V)])∧New w' w'' p (am z) (ln (am z))∧New w' w'' q V (ln V):=fun w' p q k1 k2=>by
  subst hV
  exact vqNorm_is (ng z) p (ln (am z)) (ln (am z)) (am z) q 1 1 1 1 z w' (by omega) k1 (by omega) k2 hL
 have H2:=xQ1 P2
 rw [show ln 1=ln V by rw [hV]]
 have e1:∀ w' q,New w w' q 1 (ln V)↔New w w' q V (ln V):=fun w' q=>by rw [←hV]
 simp only [e1]
 clear P2 hL hV h1 h2 e1
 go_enter Tryz.func49,Tryz.ntmps49
 go_wp2_with fail
 obtain ⟨W,hW⟩:∃ W,(w.alloc (.cells #[.bool false,.slice none 0 0,.slice none 0 0] 55))=W:=⟨_,rfl⟩
 have r00:W.cell? ⟨w.heap.size,0,none⟩=some (.bool false):=by subst hW;go_simp
 have r01:W.cell? ⟨w.heap.size,1,none⟩=some (.slice none 0 0):=by subst hW;go_simp
 have r02:W.cell? ⟨w.heap.size,2,none⟩=some (.slice none 0 0):=by subst hW;go_simp
 have hB:Below w.heap.size w W:=by subst hW;exact ((Below.refl _ _).alloc (by (try simp only [World.size_alloc]);omega) _)
 have hR0:Row W (w.heap.size):=by
  have:=xQ9 (w) #[.bool false,.slice none 0 0,.slice none 0 0] 55
  try simp only [World.size_alloc] at this
  subst hW;exact this
 have hz:W.heap.size=w.heap.size+1:=by subst hW;simp only [World.size_alloc]
 rw [hW]
 clear hW
 have hBW:Below W.heap.size W W:=Below.refl _ _
 refine (H0.out _).mono ?_
 rintro e w1 ⟨a1,rfl,h1⟩
 have b1:=h1.below
 replace h1:=h1.back hBW
 replace hBW:=hBW.trans (b1.mono hBW.size)
 replace r00:=xQ0 b1 r00
 replace r01:=xQ0 b1 r01
 replace r02:=xQ0 b1 r02
 replace hR0:=xQ3 b1 hR0
 have n9:=single_new w1 1 89 1 (by omega) rfl
 have b9:=n9.below
 replace hBW:=hBW.trans (b9.mono hBW.size)
 replace r00:=xQ0 b9 r00
 replace r01:=xQ0 b9 r01
 replace r02:=xQ0 b9 r02
 replace hR0:=xQ3 b9 hR0
 replace h1:=h1.later b9
 have G2:=xQ1 (H2.out _ a1 _ h1.seg n9.seg)
 go_wp2_with fail
 refine (G2.out).mono ?_
 rintro e w2 ⟨p2,q2,rfl,hp2,hq2⟩
 have b2:=hp2.below
 replace hp2:=hp2.back hBW
 replace hq2:=hq2.back hBW
 replace hBW:=hBW.trans (b2.mono hBW.size)
 replace r00:=xQ0 b2 r00
 replace r01:=xQ0 b2 r01
 replace r02:=xQ0 b2 r02
 replace hR0:=xQ3 b2 hR0
 replace h1:=h1.later b2
 have fz0:=fun o=>hR0.frozen o
 go_wp2
 all_goals refine bodyPost_ret (v:=Value.agg #[Value.bool (ng z),Value.slice p2 (ln (am z)) (ln (am z)),Value.slice q2 (ln V) (ln V)]) (by rw [xQ5 rfl];go_simp) rfl ?_
 all_goals exact ⟨p2,q2,rfl,hp2.mid hB (((((Mid.refl _ _ _).set _ _ (by omega) (by omega) _).set _ _ (by omega) (by omega) _).set _ _ (by omega) (by omega) _)),hq2.mid hB (((((Mid.refl _ _ _).set _ _ (by omega) (by omega) _).set _ _ (by omega) (by omega) _).set _ _ (by omega) (by omega) _))⟩
end Go.Proofs.YtgfmaejhdbmkoaaGreat
