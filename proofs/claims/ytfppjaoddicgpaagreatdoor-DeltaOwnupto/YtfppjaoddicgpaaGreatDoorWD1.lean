import Derived.Test.YtfppjaoddicgpaaGreatDoorWD0
import Derived.Test.YtfppjaoddicgpaaGreatDoorWQ4
import Derived.Test.YtfppjaoddicgpaaGreatDoorWQ5
import Derived.Test.YtfppjaoddicgpaaGreatDoorWQ9
import Derived.Test.YtfppjaoddicgpaaGreatDoorWQN
set_option linter.unusedSimpArgs false
namespace Go.Proofs.YtfppjaoddicgpaaGreatDoor
open Go.RowKit
set_option linter.unusedVariables false
set_option maxHeartbeats 4000000 in
set_option maxRecDepth 100000 in
theorem vdNorm_is (s0:Bool) (a0:Option Addr) (n0 c0 X0:Nat) (b0:Option Addr) (m0 d0 Y0:Nat) (s1:Bool) (a1:Option Addr) (n1 c1 X1:Nat) (b1:Option Addr) (m1 d1 Y1:Nat) (Z:Int) (V:Nat) (Z2:Int) (V2:Nat) (w:World) (hc0:n0≤c0) (hm0:n0≤35184372088000) (hS0:Seg w a0 X0 n0) (hd0:m0≤d0) (hk0:m0≤35184372088000) (hT0:Seg w b0 Y0 m0) (hc1:n1≤c1) (hm1:n1≤35184372088000) (hS1:Seg w a1 X1 n1) (hd1:m1≤d1) (hk1:m1≤35184372088000) (hT1:Seg w b1 Y1 m1) (hL:Low (rn s0 X0 Y0) (rd Y0:Nat) Z V) (hL2:Low (rn s1 X1 Y1) (rd Y1:Nat) Z2 V2) :
  Calls Tryz.prog 17 #[Value.agg #[Value.bool s0,Value.slice a0 n0 c0,Value.slice b0 m0 d0,Value.bool s1,Value.slice a1 n1 c1,Value.slice b1 m1 d1]] w fun e w'=>∃ p q r t,e=.returned (Value.agg #[Value.bool (ng Z),Value.slice p (ln (am Z)) (ln (am Z)),Value.slice q (ln V) (ln V),Value.bool (ng Z2),Value.slice r (ln (am Z2)) (ln (am Z2)),Value.slice t (ln V2) (ln V2)])∧New w w' p (am Z) (ln (am Z))∧New w w' q V (ln V)∧New w w' r (am Z2) (ln (am Z2))∧New w w' t V2 (ln V2):=by
 have HL:=hide' hL
 have HL2:=hide' hL2
 clear hL hL2
 go_enter Tryz.func17,Tryz.ntmps17
 go_wp2_with fail
 obtain ⟨W,hW⟩:∃ W,((w.alloc (.cells #[.bool s0,.slice a0 n0 c0,.slice b0 m0 d0,.bool s1,.slice a1 n1 c1,.slice b1 m1 d1] 29)).alloc (.cells #[.bool false,.slice none 0 0,.slice none 0 0,.bool false,.slice none 0 0,.slice none 0 0] 29))=W:=⟨_,rfl⟩
 have q00:W.cell? ⟨w.heap.size,0,none⟩=some (.bool s0):=by subst hW;go_simp
 have q01:W.cell? ⟨w.heap.size,1,none⟩=some (.slice a0 n0 c0):=by subst hW;go_simp
 have q02:W.cell? ⟨w.heap.size,2,none⟩=some (.slice b0 m0 d0):=by subst hW;go_simp
 have q03:W.cell? ⟨w.heap.size,3,none⟩=some (.bool s1):=by subst hW;go_simp
 have q04:W.cell? ⟨w.heap.size,4,none⟩=some (.slice a1 n1 c1):=by subst hW;go_simp
 have q05:W.cell? ⟨w.heap.size,5,none⟩=some (.slice b1 m1 d1):=by subst hW;go_simp
 have r00:W.cell? ⟨w.heap.size+1,0,none⟩=some (.bool false):=by subst hW;go_simp
 have r01:W.cell? ⟨w.heap.size+1,1,none⟩=some (.slice none 0 0):=by subst hW;go_simp
 have r02:W.cell? ⟨w.heap.size+1,2,none⟩=some (.slice none 0 0):=by subst hW;go_simp
 have r03:W.cell? ⟨w.heap.size+1,3,none⟩=some (.bool false):=by subst hW;go_simp
 have r04:W.cell? ⟨w.heap.size+1,4,none⟩=some (.slice none 0 0):=by subst hW;go_simp
 have r05:W.cell? ⟨w.heap.size+1,5,none⟩=some (.slice none 0 0):=by subst hW;go_simp
 have hB:Below w.heap.size w W:=by subst hW;exact (((Below.refl _ _).alloc (by (try simp only [World.size_alloc]);omega) _).alloc (by (try simp only [World.size_alloc]);omega) _)
 have hR0:Row W (w.heap.size+1):=by
  have:=row_new ((w.alloc (.cells #[.bool s0,.slice a0 n0 c0,.slice b0 m0 d0,.bool s1,.slice a1 n1 c1,.slice b1 m1 d1] 29))) #[.bool false,.slice none 0 0,.slice none 0 0,.bool false,.slice none 0 0,.slice none 0 0] 29
  try simp only [World.size_alloc] at this
  subst hW;exact this
 have hz:W.heap.size=w.heap.size+1+1:=by subst hW;simp only [World.size_alloc]
 rw [hW]
 clear hW
 have hBW:Below W.heap.size W W:=Below.refl _ _
 replace hBW:=hBW.drew
 first
  | go_region_held3 (fun w'=>w'.cell? ⟨w.heap.size,0,none⟩=some (.bool s0)∧w'.cell? ⟨w.heap.size,1,none⟩=some (.slice a0 n0 c0)∧w'.cell? ⟨w.heap.size,2,none⟩=some (.slice b0 m0 d0)∧w'.cell? ⟨w.heap.size,3,none⟩=some (.bool s1)∧w'.cell? ⟨w.heap.size,4,none⟩=some (.slice a1 n1 c1)∧w'.cell? ⟨w.heap.size,5,none⟩=some (.slice b1 m1 d1)∧Below w.heap.size w w')
    (first | with_reducible exact kpT6_6 (by assumption) (by omega) (by omega) (by omega) (by omega) (by omega) (by omega) (by omega) | exact ⟨q00,q01,q02,q03,q04,q05,hB.trans (hBW.mono hB.size)⟩ | exact kp6 b41 (by assumption) | exact kp6 b42 (by assumption) | exact kp6 (below_alloc _) (by assumption) | exact kp6 (below_alloc _) ⟨q00,q01,q02,q03,q04,q05,hB.trans (hBW.mono hB.size)⟩ | exact kpT6_6 (by assumption) (by omega) (by omega) (by omega) (by omega) (by omega) (by omega) (by omega))
    (first
     | (go_at_call 43;go_at_call_of 43 (Value.agg #[Value.bool s0,Value.slice a0 n0 c0,Value.slice b0 m0 d0]);(fail_if_success clear b41);refine (vqNorm_is s0 a0 n0 c0 X0 b0 m0 d0 Y0 V Z _ (by omega) (sb hS0 hB hBW) (by omega) (sb hT0 hB hBW) HL.out).mono ?_;rintro e w41 ⟨p41,q41,rfl,hp41,hq41⟩;have b41:=hp41.below;replace hp41:=hp41.back hBW;replace hq41:=hq41.back hBW;replace hBW:=hBW.trans (b41.mono hBW.size);replace q00:=below_cell b41 q00;replace q01:=below_cell b41 q01;replace q02:=below_cell b41 q02;replace q03:=below_cell b41 q03;replace q04:=below_cell b41 q04;replace q05:=below_cell b41 q05;replace r00:=below_cell b41 r00;replace r01:=below_cell b41 r01;replace r02:=below_cell b41 r02;replace r03:=below_cell b41 r03;replace r04:=below_cell b41 r04;replace r05:=below_cell b41 r05;replace hR0:=below_row b41 hR0)
     | (go_at_call 43;go_at_call_of 43 (Value.agg #[Value.bool s1,Value.slice a1 n1 c1,Value.slice b1 m1 d1]);(fail_if_success clear b42);refine (vqNorm_is s1 a1 n1 c1 X1 b1 m1 d1 Y1 V2 Z2 _ (by omega) (sb hS1 hB hBW) (by omega) (sb hT1 hB hBW) HL2.out).mono ?_;rintro e w42 ⟨p42,q42,rfl,hp42,hq42⟩;have b42:=hp42.below;replace hp42:=hp42.back hBW;replace hq42:=hq42.back hBW;replace hBW:=hBW.trans (b42.mono hBW.size);replace q00:=below_cell b42 q00;replace q01:=below_cell b42 q01;replace q02:=below_cell b42 q02;replace q03:=below_cell b42 q03;replace q04:=below_cell b42 q04;replace q05:=below_cell b42 q05;replace r00:=below_cell b42 r00;replace r01:=below_cell b42 r01;replace r02:=below_cell b42 r02;replace r03:=below_cell b42 r03;replace r04:=below_cell b42 r04;replace r05:=below_cell b42 r05;replace hR0:=below_row b42 hR0;replace hp41:=hp41.later b42;replace hq41:=hq41.later b42;have fz:=fun o=>hR0.frozen o))
  | fail
 have fz0:=fun o=>hR0.frozen o
 go_wp2
 all_goals refine bodyPost_ret (v:=Value.agg #[Value.bool (ng Z),Value.slice p41 (ln (am Z)) (ln (am Z)),Value.slice q41 (ln V) (ln V),Value.bool (ng Z2),Value.slice p42 (ln (am Z2)) (ln (am Z2)),Value.slice q42 (ln V2) (ln V2)]) (by rw [results_cell rfl];go_simp) rfl ?_
 all_goals exact ⟨p41,q41,p42,q42,rfl,hp41.mid hB ((((((((Mid.refl _ _ _).set _ _ (by omega) (by omega) _).set _ _ (by omega) (by omega) _).set _ _ (by omega) (by omega) _).set _ _ (by omega) (by omega) _).set _ _ (by omega) (by omega) _).set _ _ (by omega) (by omega) _)),hq41.mid hB ((((((((Mid.refl _ _ _).set _ _ (by omega) (by omega) _).set _ _ (by omega) (by omega) _).set _ _ (by omega) (by omega) _).set _ _ (by omega) (by omega) _).set _ _ (by omega) (by omega) _).set _ _ (by omega) (by omega) _)),hp42.mid hB ((((((((Mid.refl _ _ _).set _ _ (by omega) (by omega) _).set _ _ (by omega) (by omega) _).set _ _ (by omega) (by omega) _).set _ _ (by omega) (by omega) _).set _ _ (by omega) (by omega) _).set _ _ (by omega) (by omega) _)),hq42.mid hB ((((((((Mid.refl _ _ _).set _ _ (by omega) (by omega) _).set _ _ (by omega) (by omega) _).set _ _ (by omega) (by omega) _).set _ _ (by omega) (by omega) _).set _ _ (by omega) (by omega) _).set _ _ (by omega) (by omega) _))⟩
set_option maxHeartbeats 4000000 in
set_option maxRecDepth 100000 in
theorem vdNeg_is (s0:Bool) (a0:Option Addr) (n0 c0 X0:Nat) (b0:Option Addr) (m0 d0 Y0:Nat) (s1:Bool) (a1:Option Addr) (n1 c1 X1:Nat) (b1:Option Addr) (m1 d1 Y1:Nat) (Z:Int) (V:Nat) (Z2:Int) (V2:Nat) (w:World) (hc0:n0≤c0) (hm0:n0≤35184372088000) (hS0:Seg w a0 X0 n0) (hd0:m0≤d0) (hk0:m0≤35184372088000) (hT0:Seg w b0 Y0 m0) (hc1:n1≤c1) (hm1:n1≤35184372088000) (hS1:Seg w a1 X1 n1) (hd1:m1≤d1) (hk1:m1≤35184372088000) (hT1:Seg w b1 Y1 m1) (hL:Low (-(rn s0 X0 Y0)) (rd Y0:Nat) Z V) (hL2:Low (-(rn s1 X1 Y1)) (rd Y1:Nat) Z2 V2) :
  Calls Tryz.prog 19 #[Value.agg #[Value.bool s0,Value.slice a0 n0 c0,Value.slice b0 m0 d0,Value.bool s1,Value.slice a1 n1 c1,Value.slice b1 m1 d1]] w fun e w'=>∃ p q r t,e=.returned (Value.agg #[Value.bool (ng Z),Value.slice p (ln (am Z)) (ln (am Z)),Value.slice q (ln V) (ln V),Value.bool (ng Z2),Value.slice r (ln (am Z2)) (ln (am Z2)),Value.slice t (ln V2) (ln V2)])∧New w w' p (am Z) (ln (am Z))∧New w w' q V (ln V)∧New w w' r (am Z2) (ln (am Z2))∧New w w' t V2 (ln V2):=by
 have HL:=hide' hL
 have HL2:=hide' hL2
 clear hL hL2
 go_enter Tryz.func19,Tryz.ntmps19
 go_wp2_with fail
 obtain ⟨W,hW⟩:∃ W,((w.alloc (.cells #[.bool s0,.slice a0 n0 c0,.slice b0 m0 d0,.bool s1,.slice a1 n1 c1,.slice b1 m1 d1] 29)).alloc (.cells #[.bool false,.slice none 0 0,.slice none 0 0,.bool false,.slice none 0 0,.slice none 0 0] 29))=W:=⟨_,rfl⟩
 have q00:W.cell? ⟨w.heap.size,0,none⟩=some (.bool s0):=by subst hW;go_simp
 have q01:W.cell? ⟨w.heap.size,1,none⟩=some (.slice a0 n0 c0):=by subst hW;go_simp
 have q02:W.cell? ⟨w.heap.size,2,none⟩=some (.slice b0 m0 d0):=by subst hW;go_simp
 have q03:W.cell? ⟨w.heap.size,3,none⟩=some (.bool s1):=by subst hW;go_simp
 have q04:W.cell? ⟨w.heap.size,4,none⟩=some (.slice a1 n1 c1):=by subst hW;go_simp
 have q05:W.cell? ⟨w.heap.size,5,none⟩=some (.slice b1 m1 d1):=by subst hW;go_simp
 have r00:W.cell? ⟨w.heap.size+1,0,none⟩=some (.bool false):=by subst hW;go_simp
 have r01:W.cell? ⟨w.heap.size+1,1,none⟩=some (.slice none 0 0):=by subst hW;go_simp
 have r02:W.cell? ⟨w.heap.size+1,2,none⟩=some (.slice none 0 0):=by subst hW;go_simp
 have r03:W.cell? ⟨w.heap.size+1,3,none⟩=some (.bool false):=by subst hW;go_simp
 have r04:W.cell? ⟨w.heap.size+1,4,none⟩=some (.slice none 0 0):=by subst hW;go_simp
 have r05:W.cell? ⟨w.heap.size+1,5,none⟩=some (.slice none 0 0):=by subst hW;go_simp
 have hB:Below w.heap.size w W:=by subst hW;exact (((Below.refl _ _).alloc (by (try simp only [World.size_alloc]);omega) _).alloc (by (try simp only [World.size_alloc]);omega) _)
 have hR0:Row W (w.heap.size+1):=by
  have:=row_new ((w.alloc (.cells #[.bool s0,.slice a0 n0 c0,.slice b0 m0 d0,.bool s1,.slice a1 n1 c1,.slice b1 m1 d1] 29))) #[.bool false,.slice none 0 0,.slice none 0 0,.bool false,.slice none 0 0,.slice none 0 0] 29
  try simp only [World.size_alloc] at this
  subst hW;exact this
 have hz:W.heap.size=w.heap.size+1+1:=by subst hW;simp only [World.size_alloc]
 rw [hW]
 clear hW
 have hBW:Below W.heap.size W W:=Below.refl _ _
 replace hBW:=hBW.drew
 first
  | go_region_held3 (fun w'=>w'.cell? ⟨w.heap.size,0,none⟩=some (.bool s0)∧w'.cell? ⟨w.heap.size,1,none⟩=some (.slice a0 n0 c0)∧w'.cell? ⟨w.heap.size,2,none⟩=some (.slice b0 m0 d0)∧w'.cell? ⟨w.heap.size,3,none⟩=some (.bool s1)∧w'.cell? ⟨w.heap.size,4,none⟩=some (.slice a1 n1 c1)∧w'.cell? ⟨w.heap.size,5,none⟩=some (.slice b1 m1 d1)∧Below w.heap.size w w')
    (first | with_reducible exact kpT6_6 (by assumption) (by omega) (by omega) (by omega) (by omega) (by omega) (by omega) (by omega) | exact ⟨q00,q01,q02,q03,q04,q05,hB.trans (hBW.mono hB.size)⟩ | exact kp6 b41 (by assumption) | exact kp6 b42 (by assumption) | exact kp6 (below_alloc _) (by assumption) | exact kp6 (below_alloc _) ⟨q00,q01,q02,q03,q04,q05,hB.trans (hBW.mono hB.size)⟩ | exact kpT6_6 (by assumption) (by omega) (by omega) (by omega) (by omega) (by omega) (by omega) (by omega))
    (first
     | (go_at_call 44;go_at_call_of 44 (Value.agg #[Value.bool s0,Value.slice a0 n0 c0,Value.slice b0 m0 d0]);(fail_if_success clear b41);refine (vqNeg_is s0 a0 n0 c0 X0 b0 m0 d0 Y0 Z V _ hc0 (by omega) (sb hS0 hB hBW) hd0 (by omega) (sb hT0 hB hBW) HL.out).mono ?_;rintro e w41 ⟨p41,q41,rfl,hp41,hq41⟩;have b41:=hp41.below;replace hp41:=hp41.back hBW;replace hq41:=hq41.back hBW;replace hBW:=hBW.trans (b41.mono hBW.size);replace q00:=below_cell b41 q00;replace q01:=below_cell b41 q01;replace q02:=below_cell b41 q02;replace q03:=below_cell b41 q03;replace q04:=below_cell b41 q04;replace q05:=below_cell b41 q05;replace r00:=below_cell b41 r00;replace r01:=below_cell b41 r01;replace r02:=below_cell b41 r02;replace r03:=below_cell b41 r03;replace r04:=below_cell b41 r04;replace r05:=below_cell b41 r05;replace hR0:=below_row b41 hR0)
     | (go_at_call 44;go_at_call_of 44 (Value.agg #[Value.bool s1,Value.slice a1 n1 c1,Value.slice b1 m1 d1]);(fail_if_success clear b42);refine (vqNeg_is s1 a1 n1 c1 X1 b1 m1 d1 Y1 Z2 V2 _ hc1 (by omega) (sb hS1 hB hBW) hd1 (by omega) (sb hT1 hB hBW) HL2.out).mono ?_;rintro e w42 ⟨p42,q42,rfl,hp42,hq42⟩;have b42:=hp42.below;replace hp42:=hp42.back hBW;replace hq42:=hq42.back hBW;replace hBW:=hBW.trans (b42.mono hBW.size);replace q00:=below_cell b42 q00;replace q01:=below_cell b42 q01;replace q02:=below_cell b42 q02;replace q03:=below_cell b42 q03;replace q04:=below_cell b42 q04;replace q05:=below_cell b42 q05;replace r00:=below_cell b42 r00;replace r01:=below_cell b42 r01;replace r02:=below_cell b42 r02;replace r03:=below_cell b42 r03;replace r04:=below_cell b42 r04;replace r05:=below_cell b42 r05;replace hR0:=below_row b42 hR0;replace hp41:=hp41.later b42;replace hq41:=hq41.later b42;have fz:=fun o=>hR0.frozen o))
  | fail
 have fz0:=fun o=>hR0.frozen o
 go_wp2
 all_goals refine bodyPost_ret (v:=Value.agg #[Value.bool (ng Z),Value.slice p41 (ln (am Z)) (ln (am Z)),Value.slice q41 (ln V) (ln V),Value.bool (ng Z2),Value.slice p42 (ln (am Z2)) (ln (am Z2)),Value.slice q42 (ln V2) (ln V2)]) (by rw [results_cell rfl];go_simp) rfl ?_
 all_goals exact ⟨p41,q41,p42,q42,rfl,hp41.mid hB ((((((((Mid.refl _ _ _).set _ _ (by omega) (by omega) _).set _ _ (by omega) (by omega) _).set _ _ (by omega) (by omega) _).set _ _ (by omega) (by omega) _).set _ _ (by omega) (by omega) _).set _ _ (by omega) (by omega) _)),hq41.mid hB ((((((((Mid.refl _ _ _).set _ _ (by omega) (by omega) _).set _ _ (by omega) (by omega) _).set _ _ (by omega) (by omega) _).set _ _ (by omega) (by omega) _).set _ _ (by omega) (by omega) _).set _ _ (by omega) (by omega) _)),hp42.mid hB ((((((((Mid.refl _ _ _).set _ _ (by omega) (by omega) _).set _ _ (by omega) (by omega) _).set _ _ (by omega) (by omega) _).set _ _ (by omega) (by omega) _).set _ _ (by omega) (by omega) _).set _ _ (by omega) (by omega) _)),hq42.mid hB ((((((((Mid.refl _ _ _).set _ _ (by omega) (by omega) _).set _ _ (by omega) (by omega) _).set _ _ (by omega) (by omega) _).set _ _ (by omega) (by omega) _).set _ _ (by omega) (by omega) _).set _ _ (by omega) (by omega) _))⟩
set_option maxHeartbeats 4000000 in
set_option maxRecDepth 100000 in
theorem vdAdd_is (s0:Bool) (a0:Option Addr) (n0 c0 X0:Nat) (b0:Option Addr) (m0 d0 Y0:Nat) (s1:Bool) (a1:Option Addr) (n1 c1 X1:Nat) (b1:Option Addr) (m1 d1 Y1:Nat) (s2:Bool) (a2:Option Addr) (n2 c2 X2:Nat) (b2:Option Addr) (m2 d2 Y2:Nat) (s3:Bool) (a3:Option Addr) (n3 c3 X3:Nat) (b3:Option Addr) (m3 d3 Y3:Nat) (Z:Int) (V:Nat) (Z2:Int) (V2:Nat) (w:World) (hc0:n0≤c0) (hm0:n0≤35184372088000) (hS0:Seg w a0 X0 n0) (hd0:m0≤d0) (hk0:m0≤35184372088000) (hT0:Seg w b0 Y0 m0) (hc1:n1≤c1) (hm1:n1≤35184372088000) (hS1:Seg w a1 X1 n1) (hd1:m1≤d1) (hk1:m1≤35184372088000) (hT1:Seg w b1 Y1 m1) (hc2:n2≤c2) (hm2:n2≤35184372088000) (hS2:Seg w a2 X2 n2) (hd2:m2≤d2) (hk2:m2≤35184372088000) (hT2:Seg w b2 Y2 m2) (hc3:n3≤c3) (hm3:n3≤35184372088000) (hS3:Seg w a3 X3 n3) (hd3:m3≤d3) (hk3:m3≤35184372088000) (hT3:Seg w b3 Y3 m3) (hL:Low (rn s0 X0 Y0*(rd Y2:Nat)+rn s2 X2 Y2*(rd Y0:Nat)) ((rd Y0:Nat)*(rd Y2:Nat)) Z V) (hL2:Low (rn s1 X1 Y1*(rd Y3:Nat)+rn s3 X3 Y3*(rd Y1:Nat)) ((rd Y1:Nat)*(rd Y3:Nat)) Z2 V2) :
  Calls Tryz.prog 20 #[Value.agg #[Value.bool s0,Value.slice a0 n0 c0,Value.slice b0 m0 d0,Value.bool s1,Value.slice a1 n1 c1,Value.slice b1 m1 d1],Value.agg #[Value.bool s2,Value.slice a2 n2 c2,Value.slice b2 m2 d2,Value.bool s3,Value.slice a3 n3 c3,Value.slice b3 m3 d3]] w fun e w'=>∃ p q r t,e=.returned (Value.agg #[Value.bool (ng Z),Value.slice p (ln (am Z)) (ln (am Z)),Value.slice q (ln V) (ln V),Value.bool (ng Z2),Value.slice r (ln (am Z2)) (ln (am Z2)),Value.slice t (ln V2) (ln V2)])∧New w w' p (am Z) (ln (am Z))∧New w w' q V (ln V)∧New w w' r (am Z2) (ln (am Z2))∧New w w' t V2 (ln V2):=by
 have HL:=hide' hL
 have HL2:=hide' hL2
 clear hL hL2
 go_enter Tryz.func20,Tryz.ntmps20
 go_wp2_with fail
 obtain ⟨W,hW⟩:∃ W,(((w.alloc (.cells #[.bool s0,.slice a0 n0 c0,.slice b0 m0 d0,.bool s1,.slice a1 n1 c1,.slice b1 m1 d1] 29)).alloc (.cells #[.bool s2,.slice a2 n2 c2,.slice b2 m2 d2,.bool s3,.slice a3 n3 c3,.slice b3 m3 d3] 29)).alloc (.cells #[.bool false,.slice none 0 0,.slice none 0 0,.bool false,.slice none 0 0,.slice none 0 0] 29))=W:=⟨_,rfl⟩
 have q00:W.cell? ⟨w.heap.size,0,none⟩=some (.bool s0):=by subst hW;go_simp
 have q01:W.cell? ⟨w.heap.size,1,none⟩=some (.slice a0 n0 c0):=by subst hW;go_simp
 have q02:W.cell? ⟨w.heap.size,2,none⟩=some (.slice b0 m0 d0):=by subst hW;go_simp
 have q03:W.cell? ⟨w.heap.size,3,none⟩=some (.bool s1):=by subst hW;go_simp
 have q04:W.cell? ⟨w.heap.size,4,none⟩=some (.slice a1 n1 c1):=by subst hW;go_simp
 have q05:W.cell? ⟨w.heap.size,5,none⟩=some (.slice b1 m1 d1):=by subst hW;go_simp
 have q10:W.cell? ⟨w.heap.size+1,0,none⟩=some (.bool s2):=by subst hW;go_simp
 have q11:W.cell? ⟨w.heap.size+1,1,none⟩=some (.slice a2 n2 c2):=by subst hW;go_simp
 have q12:W.cell? ⟨w.heap.size+1,2,none⟩=some (.slice b2 m2 d2):=by subst hW;go_simp
 have q13:W.cell? ⟨w.heap.size+1,3,none⟩=some (.bool s3):=by subst hW;go_simp
 have q14:W.cell? ⟨w.heap.size+1,4,none⟩=some (.slice a3 n3 c3):=by subst hW;go_simp
 have q15:W.cell? ⟨w.heap.size+1,5,none⟩=some (.slice b3 m3 d3):=by subst hW;go_simp
 have r00:W.cell? ⟨w.heap.size+1+1,0,none⟩=some (.bool false):=by subst hW;go_simp
 have r01:W.cell? ⟨w.heap.size+1+1,1,none⟩=some (.slice none 0 0):=by subst hW;go_simp
 have r02:W.cell? ⟨w.heap.size+1+1,2,none⟩=some (.slice none 0 0):=by subst hW;go_simp
 have r03:W.cell? ⟨w.heap.size+1+1,3,none⟩=some (.bool false):=by subst hW;go_simp
 have r04:W.cell? ⟨w.heap.size+1+1,4,none⟩=some (.slice none 0 0):=by subst hW;go_simp
 have r05:W.cell? ⟨w.heap.size+1+1,5,none⟩=some (.slice none 0 0):=by subst hW;go_simp
 have hB:Below w.heap.size w W:=by subst hW;exact ((((Below.refl _ _).alloc (by (try simp only [World.size_alloc]);omega) _).alloc (by (try simp only [World.size_alloc]);omega) _).alloc (by (try simp only [World.size_alloc]);omega) _)
 have hR0:Row W (w.heap.size+1+1):=by
  have:=row_new (((w.alloc (.cells #[.bool s0,.slice a0 n0 c0,.slice b0 m0 d0,.bool s1,.slice a1 n1 c1,.slice b1 m1 d1] 29)).alloc (.cells #[.bool s2,.slice a2 n2 c2,.slice b2 m2 d2,.bool s3,.slice a3 n3 c3,.slice b3 m3 d3] 29))) #[.bool false,.slice none 0 0,.slice none 0 0,.bool false,.slice none 0 0,.slice none 0 0] 29
  try simp only [World.size_alloc] at this
  subst hW;exact this
 have hz:W.heap.size=w.heap.size+1+1+1:=by subst hW;simp only [World.size_alloc]
 rw [hW]
 clear hW
 have hBW:Below W.heap.size W W:=Below.refl _ _
 replace hBW:=hBW.drew
 first
  | go_region_held3 (fun w'=>w'.cell? ⟨w.heap.size,0,none⟩=some (.bool s0)∧w'.cell? ⟨w.heap.size,1,none⟩=some (.slice a0 n0 c0)∧w'.cell? ⟨w.heap.size,2,none⟩=some (.slice b0 m0 d0)∧w'.cell? ⟨w.heap.size,3,none⟩=some (.bool s1)∧w'.cell? ⟨w.heap.size,4,none⟩=some (.slice a1 n1 c1)∧w'.cell? ⟨w.heap.size,5,none⟩=some (.slice b1 m1 d1)∧w'.cell? ⟨w.heap.size+1,0,none⟩=some (.bool s2)∧w'.cell? ⟨w.heap.size+1,1,none⟩=some (.slice a2 n2 c2)∧w'.cell? ⟨w.heap.size+1,2,none⟩=some (.slice b2 m2 d2)∧w'.cell? ⟨w.heap.size+1,3,none⟩=some (.bool s3)∧w'.cell? ⟨w.heap.size+1,4,none⟩=some (.slice a3 n3 c3)∧w'.cell? ⟨w.heap.size+1,5,none⟩=some (.slice b3 m3 d3)∧Below w.heap.size w w')
    (first | with_reducible exact kpT12_6 (by assumption) (by omega) (by omega) (by omega) (by omega) (by omega) (by omega) (by omega) (by omega) (by omega) (by omega) (by omega) (by omega) (by omega) | exact ⟨q00,q01,q02,q03,q04,q05,q10,q11,q12,q13,q14,q15,hB.trans (hBW.mono hB.size)⟩ | exact kp12 b41 (by assumption) | exact kp12 b42 (by assumption) | exact kp12 (below_alloc _) (by assumption) | exact kp12 (below_alloc _) ⟨q00,q01,q02,q03,q04,q05,q10,q11,q12,q13,q14,q15,hB.trans (hBW.mono hB.size)⟩ | exact kpT12_6 (by assumption) (by omega) (by omega) (by omega) (by omega) (by omega) (by omega) (by omega) (by omega) (by omega) (by omega) (by omega) (by omega) (by omega))
    (first
     | (go_at_call 45;go_at_call_of 45 (Value.agg #[Value.bool s0,Value.slice a0 n0 c0,Value.slice b0 m0 d0]);(fail_if_success clear b41);refine (vqAdd_is s0 a0 n0 c0 X0 b0 m0 d0 Y0 s2 a2 n2 c2 X2 b2 m2 d2 Y2 Z V _ hc0 (by omega) (sb hS0 hB hBW) hd0 (by omega) (sb hT0 hB hBW) hc2 (by omega) (sb hS2 hB hBW) hd2 (by omega) (sb hT2 hB hBW) HL.out).mono ?_;rintro e w41 ⟨p41,q41,rfl,hp41,hq41⟩;have b41:=hp41.below;replace hp41:=hp41.back hBW;replace hq41:=hq41.back hBW;replace hBW:=hBW.trans (b41.mono hBW.size);replace q00:=below_cell b41 q00;replace q01:=below_cell b41 q01;replace q02:=below_cell b41 q02;replace q03:=below_cell b41 q03;replace q04:=below_cell b41 q04;replace q05:=below_cell b41 q05;replace q10:=below_cell b41 q10;replace q11:=below_cell b41 q11;replace q12:=below_cell b41 q12;replace q13:=below_cell b41 q13;replace q14:=below_cell b41 q14;replace q15:=below_cell b41 q15;replace r00:=below_cell b41 r00;replace r01:=below_cell b41 r01;replace r02:=below_cell b41 r02;replace r03:=below_cell b41 r03;replace r04:=below_cell b41 r04;replace r05:=below_cell b41 r05;replace hR0:=below_row b41 hR0)
     | (go_at_call 45;go_at_call_of 45 (Value.agg #[Value.bool s1,Value.slice a1 n1 c1,Value.slice b1 m1 d1]);(fail_if_success clear b42);refine (vqAdd_is s1 a1 n1 c1 X1 b1 m1 d1 Y1 s3 a3 n3 c3 X3 b3 m3 d3 Y3 Z2 V2 _ hc1 (by omega) (sb hS1 hB hBW) hd1 (by omega) (sb hT1 hB hBW) hc3 (by omega) (sb hS3 hB hBW) hd3 (by omega) (sb hT3 hB hBW) HL2.out).mono ?_;rintro e w42 ⟨p42,q42,rfl,hp42,hq42⟩;have b42:=hp42.below;replace hp42:=hp42.back hBW;replace hq42:=hq42.back hBW;replace hBW:=hBW.trans (b42.mono hBW.size);replace q00:=below_cell b42 q00;replace q01:=below_cell b42 q01;replace q02:=below_cell b42 q02;replace q03:=below_cell b42 q03;replace q04:=below_cell b42 q04;replace q05:=below_cell b42 q05;replace q10:=below_cell b42 q10;replace q11:=below_cell b42 q11;replace q12:=below_cell b42 q12;replace q13:=below_cell b42 q13;replace q14:=below_cell b42 q14;replace q15:=below_cell b42 q15;replace r00:=below_cell b42 r00;replace r01:=below_cell b42 r01;replace r02:=below_cell b42 r02;replace r03:=below_cell b42 r03;replace r04:=below_cell b42 r04;replace r05:=below_cell b42 r05;replace hR0:=below_row b42 hR0;replace hp41:=hp41.later b42;replace hq41:=hq41.later b42;have fz:=fun o=>hR0.frozen o))
  | fail
 have fz0:=fun o=>hR0.frozen o
 go_wp2
 all_goals refine bodyPost_ret (v:=Value.agg #[Value.bool (ng Z),Value.slice p41 (ln (am Z)) (ln (am Z)),Value.slice q41 (ln V) (ln V),Value.bool (ng Z2),Value.slice p42 (ln (am Z2)) (ln (am Z2)),Value.slice q42 (ln V2) (ln V2)]) (by rw [results_cell rfl];go_simp) rfl ?_
 all_goals exact ⟨p41,q41,p42,q42,rfl,hp41.mid hB ((((((((Mid.refl _ _ _).set _ _ (by omega) (by omega) _).set _ _ (by omega) (by omega) _).set _ _ (by omega) (by omega) _).set _ _ (by omega) (by omega) _).set _ _ (by omega) (by omega) _).set _ _ (by omega) (by omega) _)),hq41.mid hB ((((((((Mid.refl _ _ _).set _ _ (by omega) (by omega) _).set _ _ (by omega) (by omega) _).set _ _ (by omega) (by omega) _).set _ _ (by omega) (by omega) _).set _ _ (by omega) (by omega) _).set _ _ (by omega) (by omega) _)),hp42.mid hB ((((((((Mid.refl _ _ _).set _ _ (by omega) (by omega) _).set _ _ (by omega) (by omega) _).set _ _ (by omega) (by omega) _).set _ _ (by omega) (by omega) _).set _ _ (by omega) (by omega) _).set _ _ (by omega) (by omega) _)),hq42.mid hB ((((((((Mid.refl _ _ _).set _ _ (by omega) (by omega) _).set _ _ (by omega) (by omega) _).set _ _ (by omega) (by omega) _).set _ _ (by omega) (by omega) _).set _ _ (by omega) (by omega) _).set _ _ (by omega) (by omega) _))⟩
set_option maxHeartbeats 4000000 in
set_option maxRecDepth 100000 in
theorem vdSub_is (s0:Bool) (a0:Option Addr) (n0 c0 X0:Nat) (b0:Option Addr) (m0 d0 Y0:Nat) (s1:Bool) (a1:Option Addr) (n1 c1 X1:Nat) (b1:Option Addr) (m1 d1 Y1:Nat) (s2:Bool) (a2:Option Addr) (n2 c2 X2:Nat) (b2:Option Addr) (m2 d2 Y2:Nat) (s3:Bool) (a3:Option Addr) (n3 c3 X3:Nat) (b3:Option Addr) (m3 d3 Y3:Nat) (Z:Int) (V:Nat) (Z2:Int) (V2:Nat) (w:World) (hc0:n0≤c0) (hm0:n0≤35184372088000) (hS0:Seg w a0 X0 n0) (hd0:m0≤d0) (hk0:m0≤35184372088000) (hT0:Seg w b0 Y0 m0) (hc1:n1≤c1) (hm1:n1≤35184372088000) (hS1:Seg w a1 X1 n1) (hd1:m1≤d1) (hk1:m1≤35184372088000) (hT1:Seg w b1 Y1 m1) (hc2:n2≤c2) (hm2:n2≤35184372088000) (hS2:Seg w a2 X2 n2) (hd2:m2≤d2) (hk2:m2≤35184372088000) (hT2:Seg w b2 Y2 m2) (hc3:n3≤c3) (hm3:n3≤35184372088000) (hS3:Seg w a3 X3 n3) (hd3:m3≤d3) (hk3:m3≤35184372088000) (hT3:Seg w b3 Y3 m3) (hL:Low (rn s0 X0 Y0*(rd Y2:Nat)+-(rn s2 X2 Y2)*(rd Y0:Nat)) ((rd Y0:Nat)*(rd Y2:Nat)) Z V) (hL2:Low (rn s1 X1 Y1*(rd Y3:Nat)+-(rn s3 X3 Y3)*(rd Y1:Nat)) ((rd Y1:Nat)*(rd Y3:Nat)) Z2 V2) :
  Calls Tryz.prog 21 #[Value.agg #[Value.bool s0,Value.slice a0 n0 c0,Value.slice b0 m0 d0,Value.bool s1,Value.slice a1 n1 c1,Value.slice b1 m1 d1],Value.agg #[Value.bool s2,Value.slice a2 n2 c2,Value.slice b2 m2 d2,Value.bool s3,Value.slice a3 n3 c3,Value.slice b3 m3 d3]] w fun e w'=>∃ p q r t,e=.returned (Value.agg #[Value.bool (ng Z),Value.slice p (ln (am Z)) (ln (am Z)),Value.slice q (ln V) (ln V),Value.bool (ng Z2),Value.slice r (ln (am Z2)) (ln (am Z2)),Value.slice t (ln V2) (ln V2)])∧New w w' p (am Z) (ln (am Z))∧New w w' q V (ln V)∧New w w' r (am Z2) (ln (am Z2))∧New w w' t V2 (ln V2):=by
 have HL:=hide' hL
 have HL2:=hide' hL2
 clear hL hL2
 go_enter Tryz.func21,Tryz.ntmps21
 go_wp2_with fail
 obtain ⟨W,hW⟩:∃ W,(((w.alloc (.cells #[.bool s0,.slice a0 n0 c0,.slice b0 m0 d0,.bool s1,.slice a1 n1 c1,.slice b1 m1 d1] 29)).alloc (.cells #[.bool s2,.slice a2 n2 c2,.slice b2 m2 d2,.bool s3,.slice a3 n3 c3,.slice b3 m3 d3] 29)).alloc (.cells #[.bool false,.slice none 0 0,.slice none 0 0,.bool false,.slice none 0 0,.slice none 0 0] 29))=W:=⟨_,rfl⟩
 have q00:W.cell? ⟨w.heap.size,0,none⟩=some (.bool s0):=by subst hW;go_simp
 have q01:W.cell? ⟨w.heap.size,1,none⟩=some (.slice a0 n0 c0):=by subst hW;go_simp
 have q02:W.cell? ⟨w.heap.size,2,none⟩=some (.slice b0 m0 d0):=by subst hW;go_simp
 have q03:W.cell? ⟨w.heap.size,3,none⟩=some (.bool s1):=by subst hW;go_simp
 have q04:W.cell? ⟨w.heap.size,4,none⟩=some (.slice a1 n1 c1):=by subst hW;go_simp
 have q05:W.cell? ⟨w.heap.size,5,none⟩=some (.slice b1 m1 d1):=by subst hW;go_simp
 have q10:W.cell? ⟨w.heap.size+1,0,none⟩=some (.bool s2):=by subst hW;go_simp
 have q11:W.cell? ⟨w.heap.size+1,1,none⟩=some (.slice a2 n2 c2):=by subst hW;go_simp
 have q12:W.cell? ⟨w.heap.size+1,2,none⟩=some (.slice b2 m2 d2):=by subst hW;go_simp
 have q13:W.cell? ⟨w.heap.size+1,3,none⟩=some (.bool s3):=by subst hW;go_simp
 have q14:W.cell? ⟨w.heap.size+1,4,none⟩=some (.slice a3 n3 c3):=by subst hW;go_simp
 have q15:W.cell? ⟨w.heap.size+1,5,none⟩=some (.slice b3 m3 d3):=by subst hW;go_simp
 have r00:W.cell? ⟨w.heap.size+1+1,0,none⟩=some (.bool false):=by subst hW;go_simp
 have r01:W.cell? ⟨w.heap.size+1+1,1,none⟩=some (.slice none 0 0):=by subst hW;go_simp
 have r02:W.cell? ⟨w.heap.size+1+1,2,none⟩=some (.slice none 0 0):=by subst hW;go_simp
 have r03:W.cell? ⟨w.heap.size+1+1,3,none⟩=some (.bool false):=by subst hW;go_simp
 have r04:W.cell? ⟨w.heap.size+1+1,4,none⟩=some (.slice none 0 0):=by subst hW;go_simp
 have r05:W.cell? ⟨w.heap.size+1+1,5,none⟩=some (.slice none 0 0):=by subst hW;go_simp
 have hB:Below w.heap.size w W:=by subst hW;exact ((((Below.refl _ _).alloc (by (try simp only [World.size_alloc]);omega) _).alloc (by (try simp only [World.size_alloc]);omega) _).alloc (by (try simp only [World.size_alloc]);omega) _)
 have hR0:Row W (w.heap.size+1+1):=by
  have:=row_new (((w.alloc (.cells #[.bool s0,.slice a0 n0 c0,.slice b0 m0 d0,.bool s1,.slice a1 n1 c1,.slice b1 m1 d1] 29)).alloc (.cells #[.bool s2,.slice a2 n2 c2,.slice b2 m2 d2,.bool s3,.slice a3 n3 c3,.slice b3 m3 d3] 29))) #[.bool false,.slice none 0 0,.slice none 0 0,.bool false,.slice none 0 0,.slice none 0 0] 29
  try simp only [World.size_alloc] at this
  subst hW;exact this
 have hz:W.heap.size=w.heap.size+1+1+1:=by subst hW;simp only [World.size_alloc]
 rw [hW]
 clear hW
 have hBW:Below W.heap.size W W:=Below.refl _ _
 replace hBW:=hBW.drew
 first
  | go_region_held3 (fun w'=>w'.cell? ⟨w.heap.size,0,none⟩=some (.bool s0)∧w'.cell? ⟨w.heap.size,1,none⟩=some (.slice a0 n0 c0)∧w'.cell? ⟨w.heap.size,2,none⟩=some (.slice b0 m0 d0)∧w'.cell? ⟨w.heap.size,3,none⟩=some (.bool s1)∧w'.cell? ⟨w.heap.size,4,none⟩=some (.slice a1 n1 c1)∧w'.cell? ⟨w.heap.size,5,none⟩=some (.slice b1 m1 d1)∧w'.cell? ⟨w.heap.size+1,0,none⟩=some (.bool s2)∧w'.cell? ⟨w.heap.size+1,1,none⟩=some (.slice a2 n2 c2)∧w'.cell? ⟨w.heap.size+1,2,none⟩=some (.slice b2 m2 d2)∧w'.cell? ⟨w.heap.size+1,3,none⟩=some (.bool s3)∧w'.cell? ⟨w.heap.size+1,4,none⟩=some (.slice a3 n3 c3)∧w'.cell? ⟨w.heap.size+1,5,none⟩=some (.slice b3 m3 d3)∧Below w.heap.size w w')
    (first | with_reducible exact kpT12_6 (by assumption) (by omega) (by omega) (by omega) (by omega) (by omega) (by omega) (by omega) (by omega) (by omega) (by omega) (by omega) (by omega) (by omega) | exact ⟨q00,q01,q02,q03,q04,q05,q10,q11,q12,q13,q14,q15,hB.trans (hBW.mono hB.size)⟩ | exact kp12 b41 (by assumption) | exact kp12 b42 (by assumption) | exact kp12 (below_alloc _) (by assumption) | exact kp12 (below_alloc _) ⟨q00,q01,q02,q03,q04,q05,q10,q11,q12,q13,q14,q15,hB.trans (hBW.mono hB.size)⟩ | exact kpT12_6 (by assumption) (by omega) (by omega) (by omega) (by omega) (by omega) (by omega) (by omega) (by omega) (by omega) (by omega) (by omega) (by omega) (by omega))
    (first
     | (go_at_call 39;go_at_call_of 39 (Value.agg #[Value.bool s0,Value.slice a0 n0 c0,Value.slice b0 m0 d0]);(fail_if_success clear b41);refine (vqSub_is s0 a0 n0 c0 X0 b0 m0 d0 Y0 s2 a2 n2 c2 X2 b2 m2 d2 Y2 Z V _ hc0 (by omega) (sb hS0 hB hBW) hd0 (by omega) (sb hT0 hB hBW) hc2 (by omega) (sb hS2 hB hBW) hd2 (by omega) (sb hT2 hB hBW) HL.out).mono ?_;rintro e w41 ⟨p41,q41,rfl,hp41,hq41⟩;have b41:=hp41.below;replace hp41:=hp41.back hBW;replace hq41:=hq41.back hBW;replace hBW:=hBW.trans (b41.mono hBW.size);replace q00:=below_cell b41 q00;replace q01:=below_cell b41 q01;replace q02:=below_cell b41 q02;replace q03:=below_cell b41 q03;replace q04:=below_cell b41 q04;replace q05:=below_cell b41 q05;replace q10:=below_cell b41 q10;replace q11:=below_cell b41 q11;replace q12:=below_cell b41 q12;replace q13:=below_cell b41 q13;replace q14:=below_cell b41 q14;replace q15:=below_cell b41 q15;replace r00:=below_cell b41 r00;replace r01:=below_cell b41 r01;replace r02:=below_cell b41 r02;replace r03:=below_cell b41 r03;replace r04:=below_cell b41 r04;replace r05:=below_cell b41 r05;replace hR0:=below_row b41 hR0)
     | (go_at_call 39;go_at_call_of 39 (Value.agg #[Value.bool s1,Value.slice a1 n1 c1,Value.slice b1 m1 d1]);(fail_if_success clear b42);refine (vqSub_is s1 a1 n1 c1 X1 b1 m1 d1 Y1 s3 a3 n3 c3 X3 b3 m3 d3 Y3 Z2 V2 _ hc1 (by omega) (sb hS1 hB hBW) hd1 (by omega) (sb hT1 hB hBW) hc3 (by omega) (sb hS3 hB hBW) hd3 (by omega) (sb hT3 hB hBW) HL2.out).mono ?_;rintro e w42 ⟨p42,q42,rfl,hp42,hq42⟩;have b42:=hp42.below;replace hp42:=hp42.back hBW;replace hq42:=hq42.back hBW;replace hBW:=hBW.trans (b42.mono hBW.size);replace q00:=below_cell b42 q00;replace q01:=below_cell b42 q01;replace q02:=below_cell b42 q02;replace q03:=below_cell b42 q03;replace q04:=below_cell b42 q04;replace q05:=below_cell b42 q05;replace q10:=below_cell b42 q10;replace q11:=below_cell b42 q11;replace q12:=below_cell b42 q12;replace q13:=below_cell b42 q13;replace q14:=below_cell b42 q14;replace q15:=below_cell b42 q15;replace r00:=below_cell b42 r00;replace r01:=below_cell b42 r01;replace r02:=below_cell b42 r02;replace r03:=below_cell b42 r03;replace r04:=below_cell b42 r04;replace r05:=below_cell b42 r05;replace hR0:=below_row b42 hR0;replace hp41:=hp41.later b42;replace hq41:=hq41.later b42;have fz:=fun o=>hR0.frozen o))
  | fail
 have fz0:=fun o=>hR0.frozen o
 go_wp2
 all_goals refine bodyPost_ret (v:=Value.agg #[Value.bool (ng Z),Value.slice p41 (ln (am Z)) (ln (am Z)),Value.slice q41 (ln V) (ln V),Value.bool (ng Z2),Value.slice p42 (ln (am Z2)) (ln (am Z2)),Value.slice q42 (ln V2) (ln V2)]) (by rw [results_cell rfl];go_simp) rfl ?_
 all_goals exact ⟨p41,q41,p42,q42,rfl,hp41.mid hB ((((((((Mid.refl _ _ _).set _ _ (by omega) (by omega) _).set _ _ (by omega) (by omega) _).set _ _ (by omega) (by omega) _).set _ _ (by omega) (by omega) _).set _ _ (by omega) (by omega) _).set _ _ (by omega) (by omega) _)),hq41.mid hB ((((((((Mid.refl _ _ _).set _ _ (by omega) (by omega) _).set _ _ (by omega) (by omega) _).set _ _ (by omega) (by omega) _).set _ _ (by omega) (by omega) _).set _ _ (by omega) (by omega) _).set _ _ (by omega) (by omega) _)),hp42.mid hB ((((((((Mid.refl _ _ _).set _ _ (by omega) (by omega) _).set _ _ (by omega) (by omega) _).set _ _ (by omega) (by omega) _).set _ _ (by omega) (by omega) _).set _ _ (by omega) (by omega) _).set _ _ (by omega) (by omega) _)),hq42.mid hB ((((((((Mid.refl _ _ _).set _ _ (by omega) (by omega) _).set _ _ (by omega) (by omega) _).set _ _ (by omega) (by omega) _).set _ _ (by omega) (by omega) _).set _ _ (by omega) (by omega) _).set _ _ (by omega) (by omega) _))⟩
set_option maxHeartbeats 4000000 in
set_option maxRecDepth 100000 in
theorem vdScale_is (s4:Bool) (a4:Option Addr) (n4 c4 X4:Nat) (b4:Option Addr) (m4 d4 Y4:Nat) (s0:Bool) (a0:Option Addr) (n0 c0 X0:Nat) (b0:Option Addr) (m0 d0 Y0:Nat) (s1:Bool) (a1:Option Addr) (n1 c1 X1:Nat) (b1:Option Addr) (m1 d1 Y1:Nat) (Z:Int) (V:Nat) (Z2:Int) (V2:Nat) (w:World) (hc4:n4≤c4) (hm4:n4≤35184372088000) (hS4:Seg w a4 X4 n4) (hd4:m4≤d4) (hk4:m4≤35184372088000) (hT4:Seg w b4 Y4 m4) (hc0:n0≤c0) (hm0:n0≤35184372088000) (hS0:Seg w a0 X0 n0) (hd0:m0≤d0) (hk0:m0≤35184372088000) (hT0:Seg w b0 Y0 m0) (hc1:n1≤c1) (hm1:n1≤35184372088000) (hS1:Seg w a1 X1 n1) (hd1:m1≤d1) (hk1:m1≤35184372088000) (hT1:Seg w b1 Y1 m1) (hL:Low (rn s4 X4 Y4*rn s0 X0 Y0) ((rd Y4:Nat)*(rd Y0:Nat)) Z V) (hL2:Low (rn s4 X4 Y4*rn s1 X1 Y1) ((rd Y4:Nat)*(rd Y1:Nat)) Z2 V2) :
  Calls Tryz.prog 22 #[Value.agg #[Value.bool s4,Value.slice a4 n4 c4,Value.slice b4 m4 d4],Value.agg #[Value.bool s0,Value.slice a0 n0 c0,Value.slice b0 m0 d0,Value.bool s1,Value.slice a1 n1 c1,Value.slice b1 m1 d1]] w fun e w'=>∃ p q r t,e=.returned (Value.agg #[Value.bool (ng Z),Value.slice p (ln (am Z)) (ln (am Z)),Value.slice q (ln V) (ln V),Value.bool (ng Z2),Value.slice r (ln (am Z2)) (ln (am Z2)),Value.slice t (ln V2) (ln V2)])∧New w w' p (am Z) (ln (am Z))∧New w w' q V (ln V)∧New w w' r (am Z2) (ln (am Z2))∧New w w' t V2 (ln V2):=by
 have HL:=hide' hL
 have HL2:=hide' hL2
 clear hL hL2
 go_enter Tryz.func22,Tryz.ntmps22
 go_wp2_with fail
 obtain ⟨W,hW⟩:∃ W,(((w.alloc (.cells #[.bool s4,.slice a4 n4 c4,.slice b4 m4 d4] 27)).alloc (.cells #[.bool s0,.slice a0 n0 c0,.slice b0 m0 d0,.bool s1,.slice a1 n1 c1,.slice b1 m1 d1] 29)).alloc (.cells #[.bool false,.slice none 0 0,.slice none 0 0,.bool false,.slice none 0 0,.slice none 0 0] 29))=W:=⟨_,rfl⟩
 have q00:W.cell? ⟨w.heap.size,0,none⟩=some (.bool s4):=by subst hW;go_simp
 have q01:W.cell? ⟨w.heap.size,1,none⟩=some (.slice a4 n4 c4):=by subst hW;go_simp
 have q02:W.cell? ⟨w.heap.size,2,none⟩=some (.slice b4 m4 d4):=by subst hW;go_simp
 have q10:W.cell? ⟨w.heap.size+1,0,none⟩=some (.bool s0):=by subst hW;go_simp
 have q11:W.cell? ⟨w.heap.size+1,1,none⟩=some (.slice a0 n0 c0):=by subst hW;go_simp
 have q12:W.cell? ⟨w.heap.size+1,2,none⟩=some (.slice b0 m0 d0):=by subst hW;go_simp
 have q13:W.cell? ⟨w.heap.size+1,3,none⟩=some (.bool s1):=by subst hW;go_simp
 have q14:W.cell? ⟨w.heap.size+1,4,none⟩=some (.slice a1 n1 c1):=by subst hW;go_simp
 have q15:W.cell? ⟨w.heap.size+1,5,none⟩=some (.slice b1 m1 d1):=by subst hW;go_simp
 have r00:W.cell? ⟨w.heap.size+1+1,0,none⟩=some (.bool false):=by subst hW;go_simp
 have r01:W.cell? ⟨w.heap.size+1+1,1,none⟩=some (.slice none 0 0):=by subst hW;go_simp
 have r02:W.cell? ⟨w.heap.size+1+1,2,none⟩=some (.slice none 0 0):=by subst hW;go_simp
 have r03:W.cell? ⟨w.heap.size+1+1,3,none⟩=some (.bool false):=by subst hW;go_simp
 have r04:W.cell? ⟨w.heap.size+1+1,4,none⟩=some (.slice none 0 0):=by subst hW;go_simp
 have r05:W.cell? ⟨w.heap.size+1+1,5,none⟩=some (.slice none 0 0):=by subst hW;go_simp
 have hB:Below w.heap.size w W:=by subst hW;exact ((((Below.refl _ _).alloc (by (try simp only [World.size_alloc]);omega) _).alloc (by (try simp only [World.size_alloc]);omega) _).alloc (by (try simp only [World.size_alloc]);omega) _)
 have hR0:Row W (w.heap.size+1+1):=by
  have:=row_new (((w.alloc (.cells #[.bool s4,.slice a4 n4 c4,.slice b4 m4 d4] 27)).alloc (.cells #[.bool s0,.slice a0 n0 c0,.slice b0 m0 d0,.bool s1,.slice a1 n1 c1,.slice b1 m1 d1] 29))) #[.bool false,.slice none 0 0,.slice none 0 0,.bool false,.slice none 0 0,.slice none 0 0] 29
  try simp only [World.size_alloc] at this
  subst hW;exact this
 have hz:W.heap.size=w.heap.size+1+1+1:=by subst hW;simp only [World.size_alloc]
 rw [hW]
 clear hW
 have hBW:Below W.heap.size W W:=Below.refl _ _
 replace hBW:=hBW.drew
 first
  | go_region_held3 (fun w'=>w'.cell? ⟨w.heap.size,0,none⟩=some (.bool s4)∧w'.cell? ⟨w.heap.size,1,none⟩=some (.slice a4 n4 c4)∧w'.cell? ⟨w.heap.size,2,none⟩=some (.slice b4 m4 d4)∧w'.cell? ⟨w.heap.size+1,0,none⟩=some (.bool s0)∧w'.cell? ⟨w.heap.size+1,1,none⟩=some (.slice a0 n0 c0)∧w'.cell? ⟨w.heap.size+1,2,none⟩=some (.slice b0 m0 d0)∧w'.cell? ⟨w.heap.size+1,3,none⟩=some (.bool s1)∧w'.cell? ⟨w.heap.size+1,4,none⟩=some (.slice a1 n1 c1)∧w'.cell? ⟨w.heap.size+1,5,none⟩=some (.slice b1 m1 d1)∧Below w.heap.size w w')
    (first | with_reducible exact kpT9_6 (by assumption) (by omega) (by omega) (by omega) (by omega) (by omega) (by omega) (by omega) (by omega) (by omega) (by omega) | exact ⟨q00,q01,q02,q10,q11,q12,q13,q14,q15,hB.trans (hBW.mono hB.size)⟩ | exact kp9 b41 (by assumption) | exact kp9 b42 (by assumption) | exact kp9 (below_alloc _) (by assumption) | exact kp9 (below_alloc _) ⟨q00,q01,q02,q10,q11,q12,q13,q14,q15,hB.trans (hBW.mono hB.size)⟩ | exact kpT9_6 (by assumption) (by omega) (by omega) (by omega) (by omega) (by omega) (by omega) (by omega) (by omega) (by omega) (by omega))
    (first
     | (go_at_call 46;go_at_call_of 46 (Value.agg #[Value.bool s0,Value.slice a0 n0 c0,Value.slice b0 m0 d0]);(fail_if_success clear b41);refine (vqMul_is s4 a4 n4 c4 X4 b4 m4 d4 Y4 s0 a0 n0 c0 X0 b0 m0 d0 Y0 Z V _ hc4 (by omega) (sb hS4 hB hBW) hd4 (by omega) (sb hT4 hB hBW) hc0 (by omega) (sb hS0 hB hBW) hd0 (by omega) (sb hT0 hB hBW) HL.out).mono ?_;rintro e w41 ⟨p41,q41,rfl,hp41,hq41⟩;have b41:=hp41.below;replace hp41:=hp41.back hBW;replace hq41:=hq41.back hBW;replace hBW:=hBW.trans (b41.mono hBW.size);replace q00:=below_cell b41 q00;replace q01:=below_cell b41 q01;replace q02:=below_cell b41 q02;replace q10:=below_cell b41 q10;replace q11:=below_cell b41 q11;replace q12:=below_cell b41 q12;replace q13:=below_cell b41 q13;replace q14:=below_cell b41 q14;replace q15:=below_cell b41 q15;replace r00:=below_cell b41 r00;replace r01:=below_cell b41 r01;replace r02:=below_cell b41 r02;replace r03:=below_cell b41 r03;replace r04:=below_cell b41 r04;replace r05:=below_cell b41 r05;replace hR0:=below_row b41 hR0)
     | (go_at_call 46;go_at_call_of 46 (Value.agg #[Value.bool s1,Value.slice a1 n1 c1,Value.slice b1 m1 d1]);(fail_if_success clear b42);refine (vqMul_is s4 a4 n4 c4 X4 b4 m4 d4 Y4 s1 a1 n1 c1 X1 b1 m1 d1 Y1 Z2 V2 _ hc4 (by omega) (sb hS4 hB hBW) hd4 (by omega) (sb hT4 hB hBW) hc1 (by omega) (sb hS1 hB hBW) hd1 (by omega) (sb hT1 hB hBW) HL2.out).mono ?_;rintro e w42 ⟨p42,q42,rfl,hp42,hq42⟩;have b42:=hp42.below;replace hp42:=hp42.back hBW;replace hq42:=hq42.back hBW;replace hBW:=hBW.trans (b42.mono hBW.size);replace q00:=below_cell b42 q00;replace q01:=below_cell b42 q01;replace q02:=below_cell b42 q02;replace q10:=below_cell b42 q10;replace q11:=below_cell b42 q11;replace q12:=below_cell b42 q12;replace q13:=below_cell b42 q13;replace q14:=below_cell b42 q14;replace q15:=below_cell b42 q15;replace r00:=below_cell b42 r00;replace r01:=below_cell b42 r01;replace r02:=below_cell b42 r02;replace r03:=below_cell b42 r03;replace r04:=below_cell b42 r04;replace r05:=below_cell b42 r05;replace hR0:=below_row b42 hR0;replace hp41:=hp41.later b42;replace hq41:=hq41.later b42;have fz:=fun o=>hR0.frozen o))
  | fail
 have fz0:=fun o=>hR0.frozen o
 go_wp2
 all_goals refine bodyPost_ret (v:=Value.agg #[Value.bool (ng Z),Value.slice p41 (ln (am Z)) (ln (am Z)),Value.slice q41 (ln V) (ln V),Value.bool (ng Z2),Value.slice p42 (ln (am Z2)) (ln (am Z2)),Value.slice q42 (ln V2) (ln V2)]) (by rw [results_cell rfl];go_simp) rfl ?_
 all_goals exact ⟨p41,q41,p42,q42,rfl,hp41.mid hB ((((((((Mid.refl _ _ _).set _ _ (by omega) (by omega) _).set _ _ (by omega) (by omega) _).set _ _ (by omega) (by omega) _).set _ _ (by omega) (by omega) _).set _ _ (by omega) (by omega) _).set _ _ (by omega) (by omega) _)),hq41.mid hB ((((((((Mid.refl _ _ _).set _ _ (by omega) (by omega) _).set _ _ (by omega) (by omega) _).set _ _ (by omega) (by omega) _).set _ _ (by omega) (by omega) _).set _ _ (by omega) (by omega) _).set _ _ (by omega) (by omega) _)),hp42.mid hB ((((((((Mid.refl _ _ _).set _ _ (by omega) (by omega) _).set _ _ (by omega) (by omega) _).set _ _ (by omega) (by omega) _).set _ _ (by omega) (by omega) _).set _ _ (by omega) (by omega) _).set _ _ (by omega) (by omega) _)),hq42.mid hB ((((((((Mid.refl _ _ _).set _ _ (by omega) (by omega) _).set _ _ (by omega) (by omega) _).set _ _ (by omega) (by omega) _).set _ _ (by omega) (by omega) _).set _ _ (by omega) (by omega) _).set _ _ (by omega) (by omega) _))⟩
set_option maxHeartbeats 2000000 in
theorem dtwin_is (s0:Bool) (a0:Option Addr) (n0 c0 X0:Nat) (b0:Option Addr) (m0 d0 Y0:Nat) (s1:Bool) (a1:Option Addr) (n1 c1 X1:Nat) (b1:Option Addr) (m1 d1 Y1:Nat) (w:World) (hc0:n0≤c0) (hm0:n0≤70368744177664) (hS0:Seg w a0 X0 n0) (hd0:m0≤d0) (hk0:m0≤70368744177664) (hT0:Seg w b0 Y0 m0) (hc1:n1≤c1) (hm1:n1≤70368744177664) (hS1:Seg w a1 X1 n1) (hd1:m1≤d1) (hk1:m1≤70368744177664) (hT1:Seg w b1 Y1 m1) :
  Calls Tryz.prog 4 #[Value.agg #[Value.bool s0,Value.slice a0 n0 c0,Value.slice b0 m0 d0,Value.bool s1,Value.slice a1 n1 c1,Value.slice b1 m1 d1]] w fun e w'=>∃ p q r t,e=.returned (.agg #[.bool s0,.slice p n0 n0,.slice q m0 m0,.bool s1,.slice r n1 n1,.slice t m1 m1])∧New w w' p X0 n0∧New w w' q Y0 m0∧New w w' r X1 n1∧New w w' t Y1 m1:=by
 go_enter Tryz.func4,Tryz.ntmps4
 go_wp2_with fail
 obtain ⟨W,hW⟩:∃ W,((w.alloc (.cells #[.bool s0,.slice a0 n0 c0,.slice b0 m0 d0,.bool s1,.slice a1 n1 c1,.slice b1 m1 d1] 29)).alloc (.cells #[.bool false,.slice none 0 0,.slice none 0 0,.bool false,.slice none 0 0,.slice none 0 0] 29))=W:=⟨_,rfl⟩
 have q00:W.cell? ⟨w.heap.size,0,none⟩=some (.bool s0):=by subst hW;go_simp
 have q01:W.cell? ⟨w.heap.size,1,none⟩=some (.slice a0 n0 c0):=by subst hW;go_simp
 have q02:W.cell? ⟨w.heap.size,2,none⟩=some (.slice b0 m0 d0):=by subst hW;go_simp
 have q03:W.cell? ⟨w.heap.size,3,none⟩=some (.bool s1):=by subst hW;go_simp
 have q04:W.cell? ⟨w.heap.size,4,none⟩=some (.slice a1 n1 c1):=by subst hW;go_simp
 have q05:W.cell? ⟨w.heap.size,5,none⟩=some (.slice b1 m1 d1):=by subst hW;go_simp
 have r00:W.cell? ⟨w.heap.size+1,0,none⟩=some (.bool false):=by subst hW;go_simp
 have r01:W.cell? ⟨w.heap.size+1,1,none⟩=some (.slice none 0 0):=by subst hW;go_simp
 have r02:W.cell? ⟨w.heap.size+1,2,none⟩=some (.slice none 0 0):=by subst hW;go_simp
 have r03:W.cell? ⟨w.heap.size+1,3,none⟩=some (.bool false):=by subst hW;go_simp
 have r04:W.cell? ⟨w.heap.size+1,4,none⟩=some (.slice none 0 0):=by subst hW;go_simp
 have r05:W.cell? ⟨w.heap.size+1,5,none⟩=some (.slice none 0 0):=by subst hW;go_simp
 have hB:Below w.heap.size w W:=by subst hW;exact (((Below.refl _ _).alloc (by (try simp only [World.size_alloc]);omega) _).alloc (by (try simp only [World.size_alloc]);omega) _)
 have hR0:Row W (w.heap.size+1):=by
  have:=row_new ((w.alloc (.cells #[.bool s0,.slice a0 n0 c0,.slice b0 m0 d0,.bool s1,.slice a1 n1 c1,.slice b1 m1 d1] 29))) #[.bool false,.slice none 0 0,.slice none 0 0,.bool false,.slice none 0 0,.slice none 0 0] 29
  try simp only [World.size_alloc] at this
  subst hW;exact this
 have hz:W.heap.size=w.heap.size+1+1:=by subst hW;simp only [World.size_alloc]
 rw [hW]
 clear hW
 have hBW:Below W.heap.size W W:=Below.refl _ _
 replace hBW:=hBW.drew
 first
  | go_region_held3 (fun w'=>w'.cell? ⟨w.heap.size,0,none⟩=some (.bool s0)∧w'.cell? ⟨w.heap.size,1,none⟩=some (.slice a0 n0 c0)∧w'.cell? ⟨w.heap.size,2,none⟩=some (.slice b0 m0 d0)∧w'.cell? ⟨w.heap.size,3,none⟩=some (.bool s1)∧w'.cell? ⟨w.heap.size,4,none⟩=some (.slice a1 n1 c1)∧w'.cell? ⟨w.heap.size,5,none⟩=some (.slice b1 m1 d1)∧Below w.heap.size w w')
    (first | with_reducible exact kpT6_6 (by assumption) (by omega) (by omega) (by omega) (by omega) (by omega) (by omega) (by omega) | exact ⟨q00,q01,q02,q03,q04,q05,hB.trans (hBW.mono hB.size)⟩ | exact kp6 b41 (by assumption) | exact kp6 b42 (by assumption) | exact kp6 (below_alloc _) (by assumption) | exact kp6 (below_alloc _) ⟨q00,q01,q02,q03,q04,q05,hB.trans (hBW.mono hB.size)⟩ | exact kpT6_6 (by assumption) (by omega) (by omega) (by omega) (by omega) (by omega) (by omega) (by omega))
    (first
     | (go_at_call 5;go_at_call_of 5 (Value.agg #[Value.bool s0,Value.slice a0 n0 c0,Value.slice b0 m0 d0]);(fail_if_success clear b41);refine (drat_is s0 a0 n0 c0 X0 b0 m0 d0 Y0 _ hc0 (by omega) (sb hS0 hB hBW) hd0 (by omega) (sb hT0 hB hBW)).mono ?_;rintro e w41 ⟨p41,q41,rfl,hp41,hq41⟩;have b41:=hp41.below;replace hp41:=hp41.back hBW;replace hq41:=hq41.back hBW;replace hBW:=hBW.trans (b41.mono hBW.size);replace q00:=below_cell b41 q00;replace q01:=below_cell b41 q01;replace q02:=below_cell b41 q02;replace q03:=below_cell b41 q03;replace q04:=below_cell b41 q04;replace q05:=below_cell b41 q05;replace r00:=below_cell b41 r00;replace r01:=below_cell b41 r01;replace r02:=below_cell b41 r02;replace r03:=below_cell b41 r03;replace r04:=below_cell b41 r04;replace r05:=below_cell b41 r05;replace hR0:=below_row b41 hR0)
     | (go_at_call 5;go_at_call_of 5 (Value.agg #[Value.bool s1,Value.slice a1 n1 c1,Value.slice b1 m1 d1]);(fail_if_success clear b42);refine (drat_is s1 a1 n1 c1 X1 b1 m1 d1 Y1 _ hc1 (by omega) (sb hS1 hB hBW) hd1 (by omega) (sb hT1 hB hBW)).mono ?_;rintro e w42 ⟨p42,q42,rfl,hp42,hq42⟩;have b42:=hp42.below;replace hp42:=hp42.back hBW;replace hq42:=hq42.back hBW;replace hBW:=hBW.trans (b42.mono hBW.size);replace q00:=below_cell b42 q00;replace q01:=below_cell b42 q01;replace q02:=below_cell b42 q02;replace q03:=below_cell b42 q03;replace q04:=below_cell b42 q04;replace q05:=below_cell b42 q05;replace r00:=below_cell b42 r00;replace r01:=below_cell b42 r01;replace r02:=below_cell b42 r02;replace r03:=below_cell b42 r03;replace r04:=below_cell b42 r04;replace r05:=below_cell b42 r05;replace hR0:=below_row b42 hR0;replace hp41:=hp41.later b42;replace hq41:=hq41.later b42;have fz:=fun o=>hR0.frozen o))
  | fail
 have fz0:=fun o=>hR0.frozen o
 go_wp2
 all_goals refine bodyPost_ret (v:=.agg #[.bool s0,.slice p41 n0 n0,.slice q41 m0 m0,.bool s1,.slice p42 n1 n1,.slice q42 m1 m1]) (by rw [results_cell rfl];go_simp) rfl ?_
 all_goals exact ⟨p41,q41,p42,q42,rfl,hp41.mid hB ((((((((Mid.refl _ _ _).set _ _ (by omega) (by omega) _).set _ _ (by omega) (by omega) _).set _ _ (by omega) (by omega) _).set _ _ (by omega) (by omega) _).set _ _ (by omega) (by omega) _).set _ _ (by omega) (by omega) _)),hq41.mid hB ((((((((Mid.refl _ _ _).set _ _ (by omega) (by omega) _).set _ _ (by omega) (by omega) _).set _ _ (by omega) (by omega) _).set _ _ (by omega) (by omega) _).set _ _ (by omega) (by omega) _).set _ _ (by omega) (by omega) _)),hp42.mid hB ((((((((Mid.refl _ _ _).set _ _ (by omega) (by omega) _).set _ _ (by omega) (by omega) _).set _ _ (by omega) (by omega) _).set _ _ (by omega) (by omega) _).set _ _ (by omega) (by omega) _).set _ _ (by omega) (by omega) _)),hq42.mid hB ((((((((Mid.refl _ _ _).set _ _ (by omega) (by omega) _).set _ _ (by omega) (by omega) _).set _ _ (by omega) (by omega) _).set _ _ (by omega) (by omega) _).set _ _ (by omega) (by omega) _).set _ _ (by omega) (by omega) _))⟩
end Go.Proofs.YtfppjaoddicgpaaGreatDoor
