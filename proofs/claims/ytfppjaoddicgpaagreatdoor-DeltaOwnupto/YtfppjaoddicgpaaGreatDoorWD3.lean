import Derived.Test.YtfppjaoddicgpaaGreatDoorWD2
set_option linter.unusedSimpArgs false
namespace Go.Proofs.YtfppjaoddicgpaaGreatDoor
open Go.RowKit
set_option linter.unusedVariables false
theorem Seg.none (w:World):Seg w none 0 0:=⟨by simp,fun h=>absurd h (by omega)⟩
theorem low_none {Z:Int} {V:Nat} (h1:Z=0) (h2:V=1):Low (rn false 0 0) ((rd 0:Nat):Int) Z V:=by
 subst h1 h2
 exact low_zero (rd_ne 0)
theorem low_neg_ln {s:Bool} {X Y n m:Nat} {Z:Int} {V:Nat} (hX:X < BB ^ n) (hY:Y < BB ^ m) (h:Low (-(rn s X Y)) ((rd Y:Nat):Int) Z V):ln (am Z)≤n∧ln V≤m+1:=by
 have hl:=h.le
 rw [am_neg,am_nat] at hl
 exact ⟨ln_le_of_lt (Nat.lt_of_le_of_lt hl.1 (rn_lt hX)),ln_le_of_lt (Nat.lt_of_le_of_lt hl.2 (rd_lt hY))⟩
theorem at_ln {A0 A1 A4 Z:Int} {D0 D1 D4 V a0 a1 a4 d0 d1 d4:Nat} (h:Low (A0*(((D1:Nat):Int)*((D4:Nat):Int))+A1*A4*((D0:Nat):Int)) (((D0:Nat):Int)*(((D1:Nat):Int)*((D4:Nat):Int))) Z V) (h0:am A0 < BB ^ a0) (h1:am A1 < BB ^ a1) (h4:am A4 < BB ^ a4) (k0:D0 < BB ^ d0) (k1:D1 < BB ^ d1) (k4:D4 < BB ^ d4) :
  ln (am Z)≤a0+(d1+d4)+(a1+a4+d0)+1∧ln V≤d0+(d1+d4):=by
 rw [←Int.natCast_mul] at h
 have e1:am (A1*A4) < BB ^ (a1+a4):=by
  have:=ln_prod h1 h4
  rw [am_mul]
  exact Nat.lt_of_lt_of_le (ln_lt _) (pow_mono this)
 have e2:D1*D4 < BB ^ (d1+d4):=Nat.lt_of_lt_of_le (ln_lt _) (pow_mono (ln_prod k1 k4))
 have:=lowS_ln h h0 e1 k0 e2
 omega
set_option maxHeartbeats 2000000 in
set_option maxRecDepth 100000 in
theorem vdOf_is (s0:Bool) (a0:Option Addr) (n0 c0 X0:Nat) (b0:Option Addr) (m0 d0 Y0:Nat) (Z:Int) (V:Nat) (Z2:Int) (V2:Nat) (w:World) (hc0:n0≤c0) (hm0:n0≤35184372088000) (hS0:Seg w a0 X0 n0) (hd0:m0≤d0) (hk0:m0≤35184372088000) (hT0:Seg w b0 Y0 m0) (hL:Low (rn s0 X0 Y0) (rd Y0:Nat) Z V) (hZ2:Z2=0) (hV2:V2=1) :
  Calls Tryz.prog 18 #[Value.agg #[Value.bool s0,Value.slice a0 n0 c0,Value.slice b0 m0 d0]] w fun e w'=>∃ p q r t,e=.returned (Value.agg #[Value.bool (ng Z),Value.slice p (ln (am Z)) (ln (am Z)),Value.slice q (ln V) (ln V),Value.bool (ng Z2),Value.slice r (ln (am Z2)) (ln (am Z2)),Value.slice t (ln V2) (ln V2)])∧New w w' p (am Z) (ln (am Z))∧New w w' q V (ln V)∧New w w' r (am Z2) (ln (am Z2))∧New w w' t V2 (ln V2):=by
 have HL:=hide' hL
 have H2:=hide' (low_none hZ2 hV2)
 clear hL hZ2 hV2
 go_enter Tryz.func18,Tryz.ntmps18
 go_wp2_with fail
 obtain ⟨W,hW⟩:∃ W,((w.alloc (.cells #[.bool s0,.slice a0 n0 c0,.slice b0 m0 d0] 27)).alloc (.cells #[.bool false,.slice none 0 0,.slice none 0 0,.bool false,.slice none 0 0,.slice none 0 0] 29))=W:=⟨_,rfl⟩
 have q00:W.cell? ⟨w.heap.size,0,none⟩=some (.bool s0):=by subst hW;go_simp
 have q01:W.cell? ⟨w.heap.size,1,none⟩=some (.slice a0 n0 c0):=by subst hW;go_simp
 have q02:W.cell? ⟨w.heap.size,2,none⟩=some (.slice b0 m0 d0):=by subst hW;go_simp
 have r00:W.cell? ⟨w.heap.size+1,0,none⟩=some (.bool false):=by subst hW;go_simp
 have r01:W.cell? ⟨w.heap.size+1,1,none⟩=some (.slice none 0 0):=by subst hW;go_simp
 have r02:W.cell? ⟨w.heap.size+1,2,none⟩=some (.slice none 0 0):=by subst hW;go_simp
 have r03:W.cell? ⟨w.heap.size+1,3,none⟩=some (.bool false):=by subst hW;go_simp
 have r04:W.cell? ⟨w.heap.size+1,4,none⟩=some (.slice none 0 0):=by subst hW;go_simp
 have r05:W.cell? ⟨w.heap.size+1,5,none⟩=some (.slice none 0 0):=by subst hW;go_simp
 have hB:Below w.heap.size w W:=by subst hW;exact (((Below.refl _ _).alloc (by (try simp only [World.size_alloc]);omega) _).alloc (by (try simp only [World.size_alloc]);omega) _)
 have hR0:Row W (w.heap.size+1):=by
  have:=row_new ((w.alloc (.cells #[.bool s0,.slice a0 n0 c0,.slice b0 m0 d0] 27))) #[.bool false,.slice none 0 0,.slice none 0 0,.bool false,.slice none 0 0,.slice none 0 0] 29
  try simp only [World.size_alloc] at this
  subst hW;exact this
 have hz:W.heap.size=w.heap.size+1+1:=by subst hW;simp only [World.size_alloc]
 rw [hW]
 clear hW
 have hBW:Below W.heap.size W W:=Below.refl _ _
 refine (vdNorm_is s0 a0 n0 c0 X0 b0 m0 d0 Y0 false none 0 0 0 none 0 0 0 Z V Z2 V2 _ hc0 (by omega) (sb hS0 hB hBW) hd0 (by omega) (sb hT0 hB hBW) (Nat.le_refl _) (by omega) (Seg.none _) (Nat.le_refl _) (by omega) (Seg.none _) HL.out H2.out).mono ?_
 rintro e w41 ⟨p41,q41,r41,t41,rfl,hp41,hq41,hr41,ht41⟩
 have b41:=hp41.below
 replace hp41:=hp41.back hBW
 replace hq41:=hq41.back hBW
 replace hr41:=hr41.back hBW
 replace ht41:=ht41.back hBW
 replace hBW:=hBW.trans (b41.mono hBW.size)
 replace q00:=below_cell b41 q00
 replace q01:=below_cell b41 q01
 replace q02:=below_cell b41 q02
 replace r00:=below_cell b41 r00
 replace r01:=below_cell b41 r01
 replace r02:=below_cell b41 r02
 replace r03:=below_cell b41 r03
 replace r04:=below_cell b41 r04
 replace r05:=below_cell b41 r05
 replace hR0:=below_row b41 hR0
 have fz0:=fun o=>hR0.frozen o
 go_wp2
 all_goals refine bodyPost_ret (v:=Value.agg #[Value.bool (ng Z),Value.slice p41 (ln (am Z)) (ln (am Z)),Value.slice q41 (ln V) (ln V),Value.bool (ng Z2),Value.slice r41 (ln (am Z2)) (ln (am Z2)),Value.slice t41 (ln V2) (ln V2)]) (by rw [results_cell rfl];go_simp) rfl ?_
 all_goals exact ⟨p41,q41,r41,t41,rfl,hp41.mid hB ((((((((Mid.refl _ _ _).set _ _ (by omega) (by omega) _).set _ _ (by omega) (by omega) _).set _ _ (by omega) (by omega) _).set _ _ (by omega) (by omega) _).set _ _ (by omega) (by omega) _).set _ _ (by omega) (by omega) _)),hq41.mid hB ((((((((Mid.refl _ _ _).set _ _ (by omega) (by omega) _).set _ _ (by omega) (by omega) _).set _ _ (by omega) (by omega) _).set _ _ (by omega) (by omega) _).set _ _ (by omega) (by omega) _).set _ _ (by omega) (by omega) _)),hr41.mid hB ((((((((Mid.refl _ _ _).set _ _ (by omega) (by omega) _).set _ _ (by omega) (by omega) _).set _ _ (by omega) (by omega) _).set _ _ (by omega) (by omega) _).set _ _ (by omega) (by omega) _).set _ _ (by omega) (by omega) _)),ht41.mid hB ((((((((Mid.refl _ _ _).set _ _ (by omega) (by omega) _).set _ _ (by omega) (by omega) _).set _ _ (by omega) (by omega) _).set _ _ (by omega) (by omega) _).set _ _ (by omega) (by omega) _).set _ _ (by omega) (by omega) _))⟩
set_option maxHeartbeats 4000000 in
set_option maxRecDepth 100000 in
theorem vdAt_is (s0:Bool) (a0:Option Addr) (n0 c0 X0:Nat) (b0:Option Addr) (m0 d0 Y0:Nat) (s1:Bool) (a1:Option Addr) (n1 c1 X1:Nat) (b1:Option Addr) (m1 d1 Y1:Nat) (s4:Bool) (a4:Option Addr) (n4 c4 X4:Nat) (b4:Option Addr) (m4 d4 Y4:Nat) (Z:Int) (V:Nat) (w:World) (hc0:n0≤c0) (hm0:n0≤274877906944) (hS0:Seg w a0 X0 n0) (hd0:m0≤d0) (hk0:m0≤274877906944) (hT0:Seg w b0 Y0 m0) (hc1:n1≤c1) (hm1:n1≤274877906944) (hS1:Seg w a1 X1 n1) (hd1:m1≤d1) (hk1:m1≤274877906944) (hT1:Seg w b1 Y1 m1) (hc4:n4≤c4) (hm4:n4≤274877906944) (hS4:Seg w a4 X4 n4) (hd4:m4≤d4) (hk4:m4≤274877906944) (hT4:Seg w b4 Y4 m4) (hL:Low (rn s0 X0 Y0*((rd Y1:Nat)*(rd Y4:Nat))+rn s1 X1 Y1*rn s4 X4 Y4*(rd Y0:Nat)) ((rd Y0:Nat)*((rd Y1:Nat)*(rd Y4:Nat))) Z V) :
  Calls Tryz.prog 23 #[Value.agg #[Value.bool s0,Value.slice a0 n0 c0,Value.slice b0 m0 d0,Value.bool s1,Value.slice a1 n1 c1,Value.slice b1 m1 d1],Value.agg #[Value.bool s4,Value.slice a4 n4 c4,Value.slice b4 m4 d4]] w fun e w'=>∃ p q,e=.returned (.agg #[.bool (ng Z),.slice p (ln (am Z)) (ln (am Z)),.slice q (ln V) (ln V)])∧New w w' p (am Z) (ln (am Z))∧New w w' q V (ln V):=by
 obtain ⟨Z1,V1,h1⟩:=low_ex (rn s1 X1 Y1*rn s4 X4 Y4) _ (rd_ne2 Y1 Y4)
 obtain ⟨lZ1,lV1⟩:=lowP_ln h1 (rn_lt hS1.1) (rn_lt hS4.1) (rd_lt hT1.1) (rd_lt hT4.1)
 have hL2:Low (rn s0 X0 Y0*((rd V1:Nat):Int)+rn (ng Z1) (am Z1) V1*((rd Y0:Nat):Int)) (((rd Y0:Nat):Int)*((rd V1:Nat):Int)) Z V:=by
  refine hL.congr (rd_ne2 Y0 V1) ?_
  rw [rn_nf h1.pos,rd_nf h1.pos]
  have e1:=h1.eq
  grind
 have G1:=hide' h1
 have G2:=hide' hL2
 clear hL h1 hL2
 go_enter Tryz.func23,Tryz.ntmps23
 go_wp2_with fail
 obtain ⟨W,hW⟩:∃ W,(((w.alloc (.cells #[.bool s0,.slice a0 n0 c0,.slice b0 m0 d0,.bool s1,.slice a1 n1 c1,.slice b1 m1 d1] 29)).alloc (.cells #[.bool s4,.slice a4 n4 c4,.slice b4 m4 d4] 27)).alloc (.cells #[.bool false,.slice none 0 0,.slice none 0 0] 27))=W:=⟨_,rfl⟩
 have q00:W.cell? ⟨w.heap.size,0,none⟩=some (.bool s0):=by subst hW;go_simp
 have q01:W.cell? ⟨w.heap.size,1,none⟩=some (.slice a0 n0 c0):=by subst hW;go_simp
 have q02:W.cell? ⟨w.heap.size,2,none⟩=some (.slice b0 m0 d0):=by subst hW;go_simp
 have q03:W.cell? ⟨w.heap.size,3,none⟩=some (.bool s1):=by subst hW;go_simp
 have q04:W.cell? ⟨w.heap.size,4,none⟩=some (.slice a1 n1 c1):=by subst hW;go_simp
 have q05:W.cell? ⟨w.heap.size,5,none⟩=some (.slice b1 m1 d1):=by subst hW;go_simp
 have q10:W.cell? ⟨w.heap.size+1,0,none⟩=some (.bool s4):=by subst hW;go_simp
 have q11:W.cell? ⟨w.heap.size+1,1,none⟩=some (.slice a4 n4 c4):=by subst hW;go_simp
 have q12:W.cell? ⟨w.heap.size+1,2,none⟩=some (.slice b4 m4 d4):=by subst hW;go_simp
 have r00:W.cell? ⟨w.heap.size+1+1,0,none⟩=some (.bool false):=by subst hW;go_simp
 have r01:W.cell? ⟨w.heap.size+1+1,1,none⟩=some (.slice none 0 0):=by subst hW;go_simp
 have r02:W.cell? ⟨w.heap.size+1+1,2,none⟩=some (.slice none 0 0):=by subst hW;go_simp
 have hB:Below w.heap.size w W:=by subst hW;exact ((((Below.refl _ _).alloc (by (try simp only [World.size_alloc]);omega) _).alloc (by (try simp only [World.size_alloc]);omega) _).alloc (by (try simp only [World.size_alloc]);omega) _)
 have hR0:Row W (w.heap.size+1+1):=by
  have:=row_new (((w.alloc (.cells #[.bool s0,.slice a0 n0 c0,.slice b0 m0 d0,.bool s1,.slice a1 n1 c1,.slice b1 m1 d1] 29)).alloc (.cells #[.bool s4,.slice a4 n4 c4,.slice b4 m4 d4] 27))) #[.bool false,.slice none 0 0,.slice none 0 0] 27
  try simp only [World.size_alloc] at this
  subst hW;exact this
 have hz:W.heap.size=w.heap.size+1+1+1:=by subst hW;simp only [World.size_alloc]
 rw [hW]
 clear hW
 have hBW:Below W.heap.size W W:=Below.refl _ _
 replace hBW:=hBW.drew
 first
  | go_region_held3 (fun w'=>w'.cell? ⟨w.heap.size,0,none⟩=some (.bool s0)∧w'.cell? ⟨w.heap.size,1,none⟩=some (.slice a0 n0 c0)∧w'.cell? ⟨w.heap.size,2,none⟩=some (.slice b0 m0 d0)∧w'.cell? ⟨w.heap.size,3,none⟩=some (.bool s1)∧w'.cell? ⟨w.heap.size,4,none⟩=some (.slice a1 n1 c1)∧w'.cell? ⟨w.heap.size,5,none⟩=some (.slice b1 m1 d1)∧w'.cell? ⟨w.heap.size+1,0,none⟩=some (.bool s4)∧w'.cell? ⟨w.heap.size+1,1,none⟩=some (.slice a4 n4 c4)∧w'.cell? ⟨w.heap.size+1,2,none⟩=some (.slice b4 m4 d4)∧Below w.heap.size w w')
    (first | exact ⟨q00,q01,q02,q03,q04,q05,q10,q11,q12,hB.trans (hBW.mono hB.size)⟩ | exact kp9 b41 (by assumption) | exact kp9 b42 (by assumption) | exact kp9 (below_alloc _) (by assumption) | exact kp9 (below_alloc _) ⟨q00,q01,q02,q03,q04,q05,q10,q11,q12,hB.trans (hBW.mono hB.size)⟩ | exact kpT9_3 (by assumption) (by omega) (by omega) (by omega) (by omega) (by omega) (by omega) (by omega) (by omega) (by omega) (by omega))
    (first
     | (go_at_call 46;(fail_if_success clear b41);refine (vqMul_is s1 a1 n1 c1 X1 b1 m1 d1 Y1 s4 a4 n4 c4 X4 b4 m4 d4 Y4 Z1 V1 _ hc1 (by omega) (sb hS1 hB hBW) hd1 (by omega) (sb hT1 hB hBW) hc4 (by omega) (sb hS4 hB hBW) hd4 (by omega) (sb hT4 hB hBW) G1.out).mono ?_;rintro e w41 ⟨p41,q41,rfl,hp41,hq41⟩;have b41:=hp41.below;replace hp41:=hp41.back hBW;replace hq41:=hq41.back hBW;replace hBW:=hBW.trans (b41.mono hBW.size);replace q00:=below_cell b41 q00;replace q01:=below_cell b41 q01;replace q02:=below_cell b41 q02;replace q03:=below_cell b41 q03;replace q04:=below_cell b41 q04;replace q05:=below_cell b41 q05;replace q10:=below_cell b41 q10;replace q11:=below_cell b41 q11;replace q12:=below_cell b41 q12;replace r00:=below_cell b41 r00;replace r01:=below_cell b41 r01;replace r02:=below_cell b41 r02;replace hR0:=below_row b41 hR0)
     | (go_at_call 45;(fail_if_success clear b42);refine (vqAdd_is s0 a0 n0 c0 X0 b0 m0 d0 Y0 (ng Z1) p41 (ln (am Z1)) (ln (am Z1)) (am Z1) q41 (ln V1) (ln V1) V1 Z V _ hc0 (by omega) (sb hS0 hB hBW) hd0 (by omega) (sb hT0 hB hBW) (Nat.le_refl _) (by omega) hp41.seg (Nat.le_refl _) (by omega) hq41.seg G2.out).mono ?_;rintro e w42 ⟨p42,q42,rfl,hp42,hq42⟩;have b42:=hp42.below;replace hp42:=hp42.back hBW;replace hq42:=hq42.back hBW;replace hBW:=hBW.trans (b42.mono hBW.size);replace q00:=below_cell b42 q00;replace q01:=below_cell b42 q01;replace q02:=below_cell b42 q02;replace q03:=below_cell b42 q03;replace q04:=below_cell b42 q04;replace q05:=below_cell b42 q05;replace q10:=below_cell b42 q10;replace q11:=below_cell b42 q11;replace q12:=below_cell b42 q12;replace r00:=below_cell b42 r00;replace r01:=below_cell b42 r01;replace r02:=below_cell b42 r02;replace hR0:=below_row b42 hR0;replace hp41:=hp41.later b42;replace hq41:=hq41.later b42;have fz:=fun o=>hR0.frozen o))
  | fail
 have fz0:=fun o=>hR0.frozen o
 go_wp2
 all_goals refine bodyPost_ret (v:=Value.agg #[Value.bool (ng Z),Value.slice p42 (ln (am Z)) (ln (am Z)),Value.slice q42 (ln V) (ln V)]) (by rw [results_cell rfl];go_simp) rfl ?_
 all_goals exact ⟨p42,q42,rfl,hp42.mid hB (((((Mid.refl _ _ _).set _ _ (by omega) (by omega) _).set _ _ (by omega) (by omega) _).set _ _ (by omega) (by omega) _)),hq42.mid hB (((((Mid.refl _ _ _).set _ _ (by omega) (by omega) _).set _ _ (by omega) (by omega) _).set _ _ (by omega) (by omega) _))⟩
end Go.Proofs.YtfppjaoddicgpaaGreatDoor
