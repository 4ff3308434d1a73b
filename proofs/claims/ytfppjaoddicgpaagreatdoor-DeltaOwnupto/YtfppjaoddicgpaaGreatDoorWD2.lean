import Derived.Test.YtfppjaoddicgpaaGreatDoorWD1
import Derived.Test.YtfppjaoddicgpaaGreatDoorWQB
set_option linter.unusedSimpArgs false
namespace Go.Proofs.YtfppjaoddicgpaaGreatDoor
open Go.RowKit
set_option linter.unusedVariables false
def dsg (x y:Int):Int:=if x=0 then y else x
theorem lowS_ln {A0 A1 Z:Int} {D0 D1 V a0 a1 d0 d1:Nat} (h:Low (A0*(D1:Nat)+A1*(D0:Nat)) ((D0:Nat)*(D1:Nat)) Z V) (h0:am A0 < BB ^ a0) (h1:am A1 < BB ^ a1) (k0:D0 < BB ^ d0) (k1:D1 < BB ^ d1) :
  ln (am Z)≤a0+d1+(a1+d0)+1∧ln V≤d0+d1:=by
 have hl:=h.le
 constructor
 ·have g1:=ln_mono hl.1
  have g2:=ln_mono (am_add (A0*((D1:Nat):Int)) (A1*((D0:Nat):Int)))
  rw [am_mul,am_mul,am_nat,am_nat] at g2
  have p1:=ln_prod h0 k1
  have p2:=ln_prod h1 k0
  have g3:=ln_sum (ln_lt (am A0*D1)) (ln_lt (am A1*D0)) (k:=a0+d1+(a1+d0)+1) (by omega) (by omega)
  omega
 ·have g1:=ln_mono hl.2
  rw [am_mul,am_nat,am_nat] at g1
  have p1:=ln_prod k0 k1
  omega
theorem lowS_lnK {A0 A1 Z:Int} {D0 D1 V a0 a1 d0 d1 k:Nat} (h:Low (A0*(D1:Nat)+A1*(D0:Nat)) ((D0:Nat)*(D1:Nat)) Z V) (h0:am A0 < BB ^ a0) (h1:am A1 < BB ^ a1) (k0:D0 < BB ^ d0) (k1:D1 < BB ^ d1) (hk:a0+d1+1≤k) (hk2:a1+d0+1≤k) :
  ln (am Z)≤k∧ln V≤d0+d1:=by
 have hl:=h.le
 constructor
 ·have g1:=ln_mono hl.1
  have g2:=ln_mono (am_add (A0*((D1:Nat):Int)) (A1*((D0:Nat):Int)))
  rw [am_mul,am_mul,am_nat,am_nat] at g2
  have p1:=ln_prod h0 k1
  have p2:=ln_prod h1 k0
  have g3:=ln_sum (ln_lt (am A0*D1)) (ln_lt (am A1*D0)) (k:=k) (by omega) (by omega)
  omega
 ·have g1:=ln_mono hl.2
  rw [am_mul,am_nat,am_nat] at g1
  have p1:=ln_prod k0 k1
  omega
theorem lowP_ln {A0 A1 Z:Int} {D0 D1 V a0 a1 d0 d1:Nat} (h:Low (A0*A1) ((D0:Nat)*(D1:Nat)) Z V) (h0:am A0 < BB ^ a0) (h1:am A1 < BB ^ a1) (k0:D0 < BB ^ d0) (k1:D1 < BB ^ d1) :
  ln (am Z)≤a0+a1∧ln V≤d0+d1:=by
 have hl:=h.le
 constructor
 ·have g1:=ln_mono hl.1
  rw [am_mul] at g1
  have p1:=ln_prod h0 h1
  omega
 ·have g1:=ln_mono hl.2
  rw [am_mul,am_nat,am_nat] at g1
  have p1:=ln_prod k0 k1
  omega
theorem rn_lt {s:Bool} {X Y n:Nat} (h:X < BB ^ n):am (rn s X Y) < BB ^ n:=Nat.lt_of_le_of_lt (rn_am s X Y) h
theorem rd_ne2 (Y Y':Nat):(((rd Y:Nat):Int)*((rd Y':Nat):Int))≠0:=Int.mul_ne_zero (rd_ne Y) (rd_ne Y')
theorem rd_pos2 (Y Y':Nat):(0:Int) < ((rd Y:Nat):Int)*((rd Y':Nat):Int):=Int.mul_pos (by have:=rd_pos Y;omega) (by have:=rd_pos Y';omega)
set_option maxHeartbeats 2000000 in
set_option maxRecDepth 100000 in
theorem dCmp_nz (s0:Bool) (a0:Option Addr) (n0 c0 X0:Nat) (b0:Option Addr) (m0 d0 Y0:Nat) (s1:Bool) (a1:Option Addr) (n1 c1 X1:Nat) (b1:Option Addr) (m1 d1 Y1:Nat) (s2:Bool) (a2:Option Addr) (n2 c2 X2:Nat) (b2:Option Addr) (m2 d2 Y2:Nat) (s3:Bool) (a3:Option Addr) (n3 c3 X3:Nat) (b3:Option Addr) (m3 d3 Y3:Nat) (C1 C2:Int) (w:World) (hc0:n0≤c0) (hm0:n0≤35184372088000) (hS0:Seg w a0 X0 n0) (hd0:m0≤d0) (hk0:m0≤35184372088000) (hT0:Seg w b0 Y0 m0) (hc1:n1≤c1) (hm1:n1≤35184372088000) (hS1:Seg w a1 X1 n1) (hd1:m1≤d1) (hk1:m1≤35184372088000) (hT1:Seg w b1 Y1 m1) (hc2:n2≤c2) (hm2:n2≤35184372088000) (hS2:Seg w a2 X2 n2) (hd2:m2≤d2) (hk2:m2≤35184372088000) (hT2:Seg w b2 Y2 m2) (hc3:n3≤c3) (hm3:n3≤35184372088000) (hS3:Seg w a3 X3 n3) (hd3:m3≤d3) (hk3:m3≤35184372088000) (hT3:Seg w b3 Y3 m3) (hC1:sgn (rn s0 X0 Y0*(rd Y2:Nat) - rn s2 X2 Y2*(rd Y0:Nat))=C1) (hC2:sgn (rn s1 X1 Y1*(rd Y3:Nat) - rn s3 X3 Y3*(rd Y1:Nat))=C2) (hz0:C1≠0) :
  Calls Tryz.prog 49 #[Value.agg #[Value.bool s0,Value.slice a0 n0 c0,Value.slice b0 m0 d0,Value.bool s1,Value.slice a1 n1 c1,Value.slice b1 m1 d1],Value.agg #[Value.bool s2,Value.slice a2 n2 c2,Value.slice b2 m2 d2,Value.bool s3,Value.slice a3 n3 c3,Value.slice b3 m3 d3]] w fun e w'=>e=.returned (.int .i64 (dsg C1 C2))∧Below w.heap.size w w':=by
 have H1:=hide' hC1
 have H2:=hide' hC2
 clear hC1 hC2
 rw [show dsg C1 C2=C1 from if_neg hz0]
 have hx:(C1 != 0)=true:=bne_iff_ne.2 hz0
 clear hz0
 go_enter Tryz.func49,Tryz.ntmps49
 go_wp2_with fail
 obtain ⟨W,hW⟩:∃ W,((w.alloc (.cells #[.bool s0,.slice a0 n0 c0,.slice b0 m0 d0,.bool s1,.slice a1 n1 c1,.slice b1 m1 d1] 29)).alloc (.cells #[.bool s2,.slice a2 n2 c2,.slice b2 m2 d2,.bool s3,.slice a3 n3 c3,.slice b3 m3 d3] 29))=W:=⟨_,rfl⟩
 have q00:W.cell? ⟨w.heap.size,0,none⟩=some (.bool s0):=by subst hW;go_simp
 have q01:W.cell? ⟨w.heap.size,1,none⟩=some (.slice a0 n0 c0):=by subst hW;go_simp
 have q02:W.cell? ⟨w.heap.size,2,none⟩=some (.slice b0 m0 d0):=by subst hW;go_simp
 have q03:W.cell? ⟨w.heap.size,3,none⟩=some (.bool s1):=by subst hW;go_simp
 have q04:W.cell? ⟨w.heap.size,4,none⟩=some (.slice a1 n1 c1):=by subst hW;go_simp
 have q05:W.cell? ⟨w.heap.size,5,none⟩=some (.slice b1 m1 d1):=by subst hW;go_simp
 have q10:W.cell? ⟨w.heap.size+1,0,none⟩=some (.bool s2):=by subst hW;go_simp
 have q11:W.cell? ⟨w.heap.size+1,1,none⟩=some (.slice a2 n2 c2):=by subst hW;go_simp
 have q12:W.cell? ⟨w.heap.size+1,2,none⟩=some (.slice b2 m2 d2):=by subst hW;go_simp
 have q13:W.cell? ⟨w.heap.size+1,3,none⟩=some (.bool s3):=by subst hW;go_simp
 have q14:W.cell? ⟨w.heap.size+1,4,none⟩=some (.slice a3 n3 c3):=by subst hW;go_simp
 have q15:W.cell? ⟨w.heap.size+1,5,none⟩=some (.slice b3 m3 d3):=by subst hW;go_simp
 have hB:Below w.heap.size w W:=by subst hW;exact (((Below.refl _ _).alloc (by (try simp only [World.size_alloc]);omega) _).alloc (by (try simp only [World.size_alloc]);omega) _)
 have hz:W.heap.size=w.heap.size+1+1:=by subst hW;simp only [World.size_alloc]
 rw [hW]
 clear hW
 have hBW:Below W.heap.size W W:=Below.refl _ _
 refine (qCmp_is s0 a0 n0 c0 X0 b0 m0 d0 Y0 s2 a2 n2 c2 X2 b2 m2 d2 Y2 C1 _ hc0 (by omega) (sb hS0 hB hBW) hd0 (by omega) (sb hT0 hB hBW) hc2 (by omega) (sb hS2 hB hBW) hd2 (by omega) (sb hT2 hB hBW) H1.out).mono ?_
 rintro e w41 ⟨rfl,b41⟩
 replace hBW:=hBW.trans (b41.mono hBW.size)
 replace q00:=below_cell b41 q00
 replace q01:=below_cell b41 q01
 replace q02:=below_cell b41 q02
 replace q03:=below_cell b41 q03
 replace q04:=below_cell b41 q04
 replace q05:=below_cell b41 q05
 replace q10:=below_cell b41 q10
 replace q11:=below_cell b41 q11
 replace q12:=below_cell b41 q12
 replace q13:=below_cell b41 q13
 replace q14:=below_cell b41 q14
 replace q15:=below_cell b41 q15
 go_wp2
 go_ret
 exact ⟨rfl,hB.trans (hBW.mono hB.size)⟩
set_option maxHeartbeats 2000000 in
set_option maxRecDepth 100000 in
theorem dCmp_z (s0:Bool) (a0:Option Addr) (n0 c0 X0:Nat) (b0:Option Addr) (m0 d0 Y0:Nat) (s1:Bool) (a1:Option Addr) (n1 c1 X1:Nat) (b1:Option Addr) (m1 d1 Y1:Nat) (s2:Bool) (a2:Option Addr) (n2 c2 X2:Nat) (b2:Option Addr) (m2 d2 Y2:Nat) (s3:Bool) (a3:Option Addr) (n3 c3 X3:Nat) (b3:Option Addr) (m3 d3 Y3:Nat) (C1 C2:Int) (w:World) (hc0:n0≤c0) (hm0:n0≤35184372088000) (hS0:Seg w a0 X0 n0) (hd0:m0≤d0) (hk0:m0≤35184372088000) (hT0:Seg w b0 Y0 m0) (hc1:n1≤c1) (hm1:n1≤35184372088000) (hS1:Seg w a1 X1 n1) (hd1:m1≤d1) (hk1:m1≤35184372088000) (hT1:Seg w b1 Y1 m1) (hc2:n2≤c2) (hm2:n2≤35184372088000) (hS2:Seg w a2 X2 n2) (hd2:m2≤d2) (hk2:m2≤35184372088000) (hT2:Seg w b2 Y2 m2) (hc3:n3≤c3) (hm3:n3≤35184372088000) (hS3:Seg w a3 X3 n3) (hd3:m3≤d3) (hk3:m3≤35184372088000) (hT3:Seg w b3 Y3 m3) (hC1:sgn (rn s0 X0 Y0*(rd Y2:Nat) - rn s2 X2 Y2*(rd Y0:Nat))=C1) (hC2:sgn (rn s1 X1 Y1*(rd Y3:Nat) - rn s3 X3 Y3*(rd Y1:Nat))=C2) (hz0:C1=0) :
  Calls Tryz.prog 49 #[Value.agg #[Value.bool s0,Value.slice a0 n0 c0,Value.slice b0 m0 d0,Value.bool s1,Value.slice a1 n1 c1,Value.slice b1 m1 d1],Value.agg #[Value.bool s2,Value.slice a2 n2 c2,Value.slice b2 m2 d2,Value.bool s3,Value.slice a3 n3 c3,Value.slice b3 m3 d3]] w fun e w'=>e=.returned (.int .i64 (dsg C1 C2))∧Below w.heap.size w w':=by
 have H1:=hide' hC1
 have H2:=hide' hC2
 clear hC1 hC2
 subst hz0
 rw [show dsg 0 C2=C2 from rfl]
 go_enter Tryz.func49,Tryz.ntmps49
 go_wp2_with fail
 obtain ⟨W,hW⟩:∃ W,((w.alloc (.cells #[.bool s0,.slice a0 n0 c0,.slice b0 m0 d0,.bool s1,.slice a1 n1 c1,.slice b1 m1 d1] 29)).alloc (.cells #[.bool s2,.slice a2 n2 c2,.slice b2 m2 d2,.bool s3,.slice a3 n3 c3,.slice b3 m3 d3] 29))=W:=⟨_,rfl⟩
 have q00:W.cell? ⟨w.heap.size,0,none⟩=some (.bool s0):=by subst hW;go_simp
 have q01:W.cell? ⟨w.heap.size,1,none⟩=some (.slice a0 n0 c0):=by subst hW;go_simp
 have q02:W.cell? ⟨w.heap.size,2,none⟩=some (.slice b0 m0 d0):=by subst hW;go_simp
 have q03:W.cell? ⟨w.heap.size,3,none⟩=some (.bool s1):=by subst hW;go_simp
 have q04:W.cell? ⟨w.heap.size,4,none⟩=some (.slice a1 n1 c1):=by subst hW;go_simp
 have q05:W.cell? ⟨w.heap.size,5,none⟩=some (.slice b1 m1 d1):=by subst hW;go_simp
 have q10:W.cell? ⟨w.heap.size+1,0,none⟩=some (.bool s2):=by subst hW;go_simp
 have q11:W.cell? ⟨w.heap.size+1,1,none⟩=some (.slice a2 n2 c2):=by subst hW;go_simp
 have q12:W.cell? ⟨w.heap.size+1,2,none⟩=some (.slice b2 m2 d2):=by subst hW;go_simp
 have q13:W.cell? ⟨w.heap.size+1,3,none⟩=some (.bool s3):=by subst hW;go_simp
 have q14:W.cell? ⟨w.heap.size+1,4,none⟩=some (.slice a3 n3 c3):=by subst hW;go_simp
 have q15:W.cell? ⟨w.heap.size+1,5,none⟩=some (.slice b3 m3 d3):=by subst hW;go_simp
 have hB:Below w.heap.size w W:=by subst hW;exact (((Below.refl _ _).alloc (by (try simp only [World.size_alloc]);omega) _).alloc (by (try simp only [World.size_alloc]);omega) _)
 have hz:W.heap.size=w.heap.size+1+1:=by subst hW;simp only [World.size_alloc]
 rw [hW]
 clear hW
 have hBW:Below W.heap.size W W:=Below.refl _ _
 refine (qCmp_is s0 a0 n0 c0 X0 b0 m0 d0 Y0 s2 a2 n2 c2 X2 b2 m2 d2 Y2 0 _ hc0 (by omega) (sb hS0 hB hBW) hd0 (by omega) (sb hT0 hB hBW) hc2 (by omega) (sb hS2 hB hBW) hd2 (by omega) (sb hT2 hB hBW) H1.out).mono ?_
 rintro e w41 ⟨rfl,b41⟩
 replace hBW:=hBW.trans (b41.mono hBW.size)
 replace q00:=below_cell b41 q00
 replace q01:=below_cell b41 q01
 replace q02:=below_cell b41 q02
 replace q03:=below_cell b41 q03
 replace q04:=below_cell b41 q04
 replace q05:=below_cell b41 q05
 replace q10:=below_cell b41 q10
 replace q11:=below_cell b41 q11
 replace q12:=below_cell b41 q12
 replace q13:=below_cell b41 q13
 replace q14:=below_cell b41 q14
 replace q15:=below_cell b41 q15
 go_wp2_with fail
 refine (qCmp_is s1 a1 n1 c1 X1 b1 m1 d1 Y1 s3 a3 n3 c3 X3 b3 m3 d3 Y3 C2 _ hc1 (by omega) (sb hS1 hB hBW) hd1 (by omega) (sb hT1 hB hBW) hc3 (by omega) (sb hS3 hB hBW) hd3 (by omega) (sb hT3 hB hBW) H2.out).mono ?_
 rintro e w42 ⟨rfl,b42⟩
 replace hBW:=hBW.trans (b42.mono hBW.size)
 replace q00:=below_cell b42 q00
 replace q01:=below_cell b42 q01
 replace q02:=below_cell b42 q02
 replace q03:=below_cell b42 q03
 replace q04:=below_cell b42 q04
 replace q05:=below_cell b42 q05
 replace q10:=below_cell b42 q10
 replace q11:=below_cell b42 q11
 replace q12:=below_cell b42 q12
 replace q13:=below_cell b42 q13
 replace q14:=below_cell b42 q14
 replace q15:=below_cell b42 q15
 go_wp2
 go_ret
 exact ⟨rfl,hB.trans (hBW.mono hB.size)⟩
theorem dCmp_is (s0:Bool) (a0:Option Addr) (n0 c0 X0:Nat) (b0:Option Addr) (m0 d0 Y0:Nat) (s1:Bool) (a1:Option Addr) (n1 c1 X1:Nat) (b1:Option Addr) (m1 d1 Y1:Nat) (s2:Bool) (a2:Option Addr) (n2 c2 X2:Nat) (b2:Option Addr) (m2 d2 Y2:Nat) (s3:Bool) (a3:Option Addr) (n3 c3 X3:Nat) (b3:Option Addr) (m3 d3 Y3:Nat) (C1 C2:Int) (w:World) (hc0:n0≤c0) (hm0:n0≤35184372088000) (hS0:Seg w a0 X0 n0) (hd0:m0≤d0) (hk0:m0≤35184372088000) (hT0:Seg w b0 Y0 m0) (hc1:n1≤c1) (hm1:n1≤35184372088000) (hS1:Seg w a1 X1 n1) (hd1:m1≤d1) (hk1:m1≤35184372088000) (hT1:Seg w b1 Y1 m1) (hc2:n2≤c2) (hm2:n2≤35184372088000) (hS2:Seg w a2 X2 n2) (hd2:m2≤d2) (hk2:m2≤35184372088000) (hT2:Seg w b2 Y2 m2) (hc3:n3≤c3) (hm3:n3≤35184372088000) (hS3:Seg w a3 X3 n3) (hd3:m3≤d3) (hk3:m3≤35184372088000) (hT3:Seg w b3 Y3 m3) (hC1:sgn (rn s0 X0 Y0*(rd Y2:Nat) - rn s2 X2 Y2*(rd Y0:Nat))=C1) (hC2:sgn (rn s1 X1 Y1*(rd Y3:Nat) - rn s3 X3 Y3*(rd Y1:Nat))=C2) :
  Calls Tryz.prog 49 #[Value.agg #[Value.bool s0,Value.slice a0 n0 c0,Value.slice b0 m0 d0,Value.bool s1,Value.slice a1 n1 c1,Value.slice b1 m1 d1],Value.agg #[Value.bool s2,Value.slice a2 n2 c2,Value.slice b2 m2 d2,Value.bool s3,Value.slice a3 n3 c3,Value.slice b3 m3 d3]] w fun e w'=>e=.returned (.int .i64 (dsg C1 C2))∧Below w.heap.size w w':=by
 by_cases hz0:C1=0
 ·exact dCmp_z s0 a0 n0 c0 X0 b0 m0 d0 Y0 s1 a1 n1 c1 X1 b1 m1 d1 Y1 s2 a2 n2 c2 X2 b2 m2 d2 Y2 s3 a3 n3 c3 X3 b3 m3 d3 Y3 C1 C2 w hc0 hm0 hS0 hd0 hk0 hT0 hc1 hm1 hS1 hd1 hk1 hT1 hc2 hm2 hS2 hd2 hk2 hT2 hc3 hm3 hS3 hd3 hk3 hT3 hC1 hC2 hz0
 ·exact dCmp_nz s0 a0 n0 c0 X0 b0 m0 d0 Y0 s1 a1 n1 c1 X1 b1 m1 d1 Y1 s2 a2 n2 c2 X2 b2 m2 d2 Y2 s3 a3 n3 c3 X3 b3 m3 d3 Y3 C1 C2 w hc0 hm0 hS0 hd0 hk0 hT0 hc1 hm1 hS1 hd1 hk1 hT1 hc2 hm2 hS2 hd2 hk2 hT2 hc3 hm3 hS3 hd3 hk3 hT3 hC1 hC2 hz0
set_option maxHeartbeats 2000000 in
set_option maxRecDepth 100000 in
theorem vdSign_nz (s0:Bool) (a0:Option Addr) (n0 c0 X0:Nat) (b0:Option Addr) (m0 d0 Y0:Nat) (s1:Bool) (a1:Option Addr) (n1 c1 X1:Nat) (b1:Option Addr) (m1 d1 Y1:Nat) (C1 C2:Int) (w:World) (hc0:n0≤c0) (hm0:n0≤70368744177300) (hS0:Seg w a0 X0 n0) (hd0:m0≤d0) (hk0:m0≤70368744177300) (hT0:Seg w b0 Y0 m0) (hc1:n1≤c1) (hm1:n1≤70368744177300) (hS1:Seg w a1 X1 n1) (hd1:m1≤d1) (hk1:m1≤70368744177300) (hT1:Seg w b1 Y1 m1) (hC1:sgn (rn s0 X0 Y0)=C1) (hC2:sgn (rn s1 X1 Y1)=C2) (hz0:C1≠0) :
  Calls Tryz.prog 63 #[Value.agg #[Value.bool s0,Value.slice a0 n0 c0,Value.slice b0 m0 d0,Value.bool s1,Value.slice a1 n1 c1,Value.slice b1 m1 d1]] w fun e w'=>e=.returned (.int .i64 (dsg C1 C2))∧Below w.heap.size w w':=by
 have H1:=hide' hC1
 have H2:=hide' hC2
 clear hC1 hC2
 rw [show dsg C1 C2=C1 from if_neg hz0]
 have hx:(C1 != 0)=true:=bne_iff_ne.2 hz0
 clear hz0
 go_enter Tryz.func63,Tryz.ntmps63
 go_wp2_with fail
 obtain ⟨W,hW⟩:∃ W,(w.alloc (.cells #[.bool s0,.slice a0 n0 c0,.slice b0 m0 d0,.bool s1,.slice a1 n1 c1,.slice b1 m1 d1] 29))=W:=⟨_,rfl⟩
 have q00:W.cell? ⟨w.heap.size,0,none⟩=some (.bool s0):=by subst hW;go_simp
 have q01:W.cell? ⟨w.heap.size,1,none⟩=some (.slice a0 n0 c0):=by subst hW;go_simp
 have q02:W.cell? ⟨w.heap.size,2,none⟩=some (.slice b0 m0 d0):=by subst hW;go_simp
 have q03:W.cell? ⟨w.heap.size,3,none⟩=some (.bool s1):=by subst hW;go_simp
 have q04:W.cell? ⟨w.heap.size,4,none⟩=some (.slice a1 n1 c1):=by subst hW;go_simp
 have q05:W.cell? ⟨w.heap.size,5,none⟩=some (.slice b1 m1 d1):=by subst hW;go_simp
 have hB:Below w.heap.size w W:=by subst hW;exact ((Below.refl _ _).alloc (by (try simp only [World.size_alloc]);omega) _)
 have hz:W.heap.size=w.heap.size+1:=by subst hW;simp only [World.size_alloc]
 rw [hW]
 clear hW
 have hBW:Below W.heap.size W W:=Below.refl _ _
 refine (vqSign_is s0 a0 n0 c0 X0 b0 m0 d0 Y0 C1 _ hc0 (by omega) (sb hS0 hB hBW) hd0 (by omega) (sb hT0 hB hBW) H1.out).mono ?_
 rintro e w41 ⟨rfl,b41⟩
 replace hBW:=hBW.trans (b41.mono hBW.size)
 replace q00:=below_cell b41 q00
 replace q01:=below_cell b41 q01
 replace q02:=below_cell b41 q02
 replace q03:=below_cell b41 q03
 replace q04:=below_cell b41 q04
 replace q05:=below_cell b41 q05
 go_wp2
 go_ret
 exact ⟨rfl,hB.trans (hBW.mono hB.size)⟩
set_option maxHeartbeats 2000000 in
set_option maxRecDepth 100000 in
theorem vdSign_z (s0:Bool) (a0:Option Addr) (n0 c0 X0:Nat) (b0:Option Addr) (m0 d0 Y0:Nat) (s1:Bool) (a1:Option Addr) (n1 c1 X1:Nat) (b1:Option Addr) (m1 d1 Y1:Nat) (C1 C2:Int) (w:World) (hc0:n0≤c0) (hm0:n0≤70368744177300) (hS0:Seg w a0 X0 n0) (hd0:m0≤d0) (hk0:m0≤70368744177300) (hT0:Seg w b0 Y0 m0) (hc1:n1≤c1) (hm1:n1≤70368744177300) (hS1:Seg w a1 X1 n1) (hd1:m1≤d1) (hk1:m1≤70368744177300) (hT1:Seg w b1 Y1 m1) (hC1:sgn (rn s0 X0 Y0)=C1) (hC2:sgn (rn s1 X1 Y1)=C2) (hz0:C1=0) :
  Calls Tryz.prog 63 #[Value.agg #[Value.bool s0,Value.slice a0 n0 c0,Value.slice b0 m0 d0,Value.bool s1,Value.slice a1 n1 c1,Value.slice b1 m1 d1]] w fun e w'=>e=.returned (.int .i64 (dsg C1 C2))∧Below w.heap.size w w':=by
 have H1:=hide' hC1
 have H2:=hide' hC2
 clear hC1 hC2
 subst hz0
 rw [show dsg 0 C2=C2 from rfl]
 go_enter Tryz.func63,Tryz.ntmps63
 go_wp2_with fail
 obtain ⟨W,hW⟩:∃ W,(w.alloc (.cells #[.bool s0,.slice a0 n0 c0,.slice b0 m0 d0,.bool s1,.slice a1 n1 c1,.slice b1 m1 d1] 29))=W:=⟨_,rfl⟩
 have q00:W.cell? ⟨w.heap.size,0,none⟩=some (.bool s0):=by subst hW;go_simp
 have q01:W.cell? ⟨w.heap.size,1,none⟩=some (.slice a0 n0 c0):=by subst hW;go_simp
 have q02:W.cell? ⟨w.heap.size,2,none⟩=some (.slice b0 m0 d0):=by subst hW;go_simp
 have q03:W.cell? ⟨w.heap.size,3,none⟩=some (.bool s1):=by subst hW;go_simp
 have q04:W.cell? ⟨w.heap.size,4,none⟩=some (.slice a1 n1 c1):=by subst hW;go_simp
 have q05:W.cell? ⟨w.heap.size,5,none⟩=some (.slice b1 m1 d1):=by subst hW;go_simp
 have hB:Below w.heap.size w W:=by subst hW;exact ((Below.refl _ _).alloc (by (try simp only [World.size_alloc]);omega) _)
 have hz:W.heap.size=w.heap.size+1:=by subst hW;simp only [World.size_alloc]
 rw [hW]
 clear hW
 have hBW:Below W.heap.size W W:=Below.refl _ _
 refine (vqSign_is s0 a0 n0 c0 X0 b0 m0 d0 Y0 0 _ hc0 (by omega) (sb hS0 hB hBW) hd0 (by omega) (sb hT0 hB hBW) H1.out).mono ?_
 rintro e w41 ⟨rfl,b41⟩
 replace hBW:=hBW.trans (b41.mono hBW.size)
 replace q00:=below_cell b41 q00
 replace q01:=below_cell b41 q01
 replace q02:=below_cell b41 q02
 replace q03:=below_cell b41 q03
 replace q04:=below_cell b41 q04
 replace q05:=below_cell b41 q05
 go_wp2_with fail
 refine (vqSign_is s1 a1 n1 c1 X1 b1 m1 d1 Y1 C2 _ hc1 (by omega) (sb hS1 hB hBW) hd1 (by omega) (sb hT1 hB hBW) H2.out).mono ?_
 rintro e w42 ⟨rfl,b42⟩
 replace hBW:=hBW.trans (b42.mono hBW.size)
 replace q00:=below_cell b42 q00
 replace q01:=below_cell b42 q01
 replace q02:=below_cell b42 q02
 replace q03:=below_cell b42 q03
 replace q04:=below_cell b42 q04
 replace q05:=below_cell b42 q05
 go_wp2
 go_ret
 exact ⟨rfl,hB.trans (hBW.mono hB.size)⟩
theorem vdSign_is (s0:Bool) (a0:Option Addr) (n0 c0 X0:Nat) (b0:Option Addr) (m0 d0 Y0:Nat) (s1:Bool) (a1:Option Addr) (n1 c1 X1:Nat) (b1:Option Addr) (m1 d1 Y1:Nat) (C1 C2:Int) (w:World) (hc0:n0≤c0) (hm0:n0≤70368744177300) (hS0:Seg w a0 X0 n0) (hd0:m0≤d0) (hk0:m0≤70368744177300) (hT0:Seg w b0 Y0 m0) (hc1:n1≤c1) (hm1:n1≤70368744177300) (hS1:Seg w a1 X1 n1) (hd1:m1≤d1) (hk1:m1≤70368744177300) (hT1:Seg w b1 Y1 m1) (hC1:sgn (rn s0 X0 Y0)=C1) (hC2:sgn (rn s1 X1 Y1)=C2) :
  Calls Tryz.prog 63 #[Value.agg #[Value.bool s0,Value.slice a0 n0 c0,Value.slice b0 m0 d0,Value.bool s1,Value.slice a1 n1 c1,Value.slice b1 m1 d1]] w fun e w'=>e=.returned (.int .i64 (dsg C1 C2))∧Below w.heap.size w w':=by
 by_cases hz0:C1=0
 ·exact vdSign_z s0 a0 n0 c0 X0 b0 m0 d0 Y0 s1 a1 n1 c1 X1 b1 m1 d1 Y1 C1 C2 w hc0 hm0 hS0 hd0 hk0 hT0 hc1 hm1 hS1 hd1 hk1 hT1 hC1 hC2 hz0
 ·exact vdSign_nz s0 a0 n0 c0 X0 b0 m0 d0 Y0 s1 a1 n1 c1 X1 b1 m1 d1 Y1 C1 C2 w hc0 hm0 hS0 hd0 hk0 hT0 hc1 hm1 hS1 hd1 hk1 hT1 hC1 hC2 hz0
set_option maxHeartbeats 2000000 in
set_option maxRecDepth 100000 in
theorem vdCmp_is (s0:Bool) (a0:Option Addr) (n0 c0 X0:Nat) (b0:Option Addr) (m0 d0 Y0:Nat) (s1:Bool) (a1:Option Addr) (n1 c1 X1:Nat) (b1:Option Addr) (m1 d1 Y1:Nat) (s2:Bool) (a2:Option Addr) (n2 c2 X2:Nat) (b2:Option Addr) (m2 d2 Y2:Nat) (s3:Bool) (a3:Option Addr) (n3 c3 X3:Nat) (b3:Option Addr) (m3 d3 Y3:Nat) (C1 C2:Int) (w:World) (hc0:n0≤c0) (hm0:n0≤35184372088000) (hS0:Seg w a0 X0 n0) (hd0:m0≤d0) (hk0:m0≤35184372088000) (hT0:Seg w b0 Y0 m0) (hc1:n1≤c1) (hm1:n1≤35184372088000) (hS1:Seg w a1 X1 n1) (hd1:m1≤d1) (hk1:m1≤35184372088000) (hT1:Seg w b1 Y1 m1) (hc2:n2≤c2) (hm2:n2≤35184372088000) (hS2:Seg w a2 X2 n2) (hd2:m2≤d2) (hk2:m2≤35184372088000) (hT2:Seg w b2 Y2 m2) (hc3:n3≤c3) (hm3:n3≤35184372088000) (hS3:Seg w a3 X3 n3) (hd3:m3≤d3) (hk3:m3≤35184372088000) (hT3:Seg w b3 Y3 m3) (hC1:sgn (rn s0 X0 Y0*(rd Y2:Nat) - rn s2 X2 Y2*(rd Y0:Nat))=C1) (hC2:sgn (rn s1 X1 Y1*(rd Y3:Nat) - rn s3 X3 Y3*(rd Y1:Nat))=C2) :
  Calls Tryz.prog 38 #[Value.agg #[Value.bool s0,Value.slice a0 n0 c0,Value.slice b0 m0 d0,Value.bool s1,Value.slice a1 n1 c1,Value.slice b1 m1 d1],Value.agg #[Value.bool s2,Value.slice a2 n2 c2,Value.slice b2 m2 d2,Value.bool s3,Value.slice a3 n3 c3,Value.slice b3 m3 d3]] w fun e w'=>e=.returned (.int .i64 (dsg C1 C2))∧Below w.heap.size w w':=by
 obtain ⟨Z,V,hL⟩:=low_ex (rn s0 X0 Y0*((rd Y2:Nat):Int)+-(rn s2 X2 Y2)*((rd Y0:Nat):Int)) _ (rd_ne2 Y0 Y2)
 have hs:sgn (rn (ng Z) (am Z) V)=C1:=by
  rw [rn_nf hL.pos,hL.sgn (rd_pos2 Y0 Y2),←hC1,Int.neg_mul]
  rfl
 obtain ⟨lZ,lV⟩:=lowS_lnK (k:=70368744176100) (A0:=rn s0 X0 Y0) (A1:=-(rn s2 X2 Y2)) hL (rn_lt hS0.1) (by rw [am_neg];exact rn_lt hS2.1) (rd_lt hT0.1) (rd_lt hT2.1) (by omega) (by omega)
 obtain ⟨Z2,V2,hL2⟩:=low_ex (rn s1 X1 Y1*((rd Y3:Nat):Int)+-(rn s3 X3 Y3)*((rd Y1:Nat):Int)) _ (rd_ne2 Y1 Y3)
 have hs2:sgn (rn (ng Z2) (am Z2) V2)=C2:=by
  rw [rn_nf hL2.pos,hL2.sgn (rd_pos2 Y1 Y3),←hC2,Int.neg_mul]
  rfl
 obtain ⟨lZ2,lV2⟩:=lowS_lnK (k:=70368744176100) (A0:=rn s1 X1 Y1) (A1:=-(rn s3 X3 Y3)) hL2 (rn_lt hS1.1) (by rw [am_neg];exact rn_lt hS3.1) (rd_lt hT1.1) (rd_lt hT3.1) (by omega) (by omega)
 have G1:=hide' hL
 have G2:=hide' hL2
 have G3:=hide' hs
 have G4:=hide' hs2
 clear hL hL2 hs hs2 hC1 hC2
 go_enter Tryz.func38,Tryz.ntmps38
 go_wp2_with fail
 obtain ⟨W,hW⟩:∃ W,((w.alloc (.cells #[.bool s0,.slice a0 n0 c0,.slice b0 m0 d0,.bool s1,.slice a1 n1 c1,.slice b1 m1 d1] 29)).alloc (.cells #[.bool s2,.slice a2 n2 c2,.slice b2 m2 d2,.bool s3,.slice a3 n3 c3,.slice b3 m3 d3] 29))=W:=⟨_,rfl⟩
 have q00:W.cell? ⟨w.heap.size,0,none⟩=some (.bool s0):=by subst hW;go_simp
 have q01:W.cell? ⟨w.heap.size,1,none⟩=some (.slice a0 n0 c0):=by subst hW;go_simp
 have q02:W.cell? ⟨w.heap.size,2,none⟩=some (.slice b0 m0 d0):=by subst hW;go_simp
 have q03:W.cell? ⟨w.heap.size,3,none⟩=some (.bool s1):=by subst hW;go_simp
 have q04:W.cell? ⟨w.heap.size,4,none⟩=some (.slice a1 n1 c1):=by subst hW;go_simp
 have q05:W.cell? ⟨w.heap.size,5,none⟩=some (.slice b1 m1 d1):=by subst hW;go_simp
 have q10:W.cell? ⟨w.heap.size+1,0,none⟩=some (.bool s2):=by subst hW;go_simp
 have q11:W.cell? ⟨w.heap.size+1,1,none⟩=some (.slice a2 n2 c2):=by subst hW;go_simp
 have q12:W.cell? ⟨w.heap.size+1,2,none⟩=some (.slice b2 m2 d2):=by subst hW;go_simp
 have q13:W.cell? ⟨w.heap.size+1,3,none⟩=some (.bool s3):=by subst hW;go_simp
 have q14:W.cell? ⟨w.heap.size+1,4,none⟩=some (.slice a3 n3 c3):=by subst hW;go_simp
 have q15:W.cell? ⟨w.heap.size+1,5,none⟩=some (.slice b3 m3 d3):=by subst hW;go_simp
 have hB:Below w.heap.size w W:=by subst hW;exact (((Below.refl _ _).alloc (by (try simp only [World.size_alloc]);omega) _).alloc (by (try simp only [World.size_alloc]);omega) _)
 have hz:W.heap.size=w.heap.size+1+1:=by subst hW;simp only [World.size_alloc]
 rw [hW]
 clear hW
 have hBW:Below W.heap.size W W:=Below.refl _ _
 refine (vdSub_is s0 a0 n0 c0 X0 b0 m0 d0 Y0 s1 a1 n1 c1 X1 b1 m1 d1 Y1 s2 a2 n2 c2 X2 b2 m2 d2 Y2 s3 a3 n3 c3 X3 b3 m3 d3 Y3 Z V Z2 V2 _ hc0 (by omega) (sb hS0 hB hBW) hd0 (by omega) (sb hT0 hB hBW) hc1 (by omega) (sb hS1 hB hBW) hd1 (by omega) (sb hT1 hB hBW) hc2 (by omega) (sb hS2 hB hBW) hd2 (by omega) (sb hT2 hB hBW) hc3 (by omega) (sb hS3 hB hBW) hd3 (by omega) (sb hT3 hB hBW) G1.out G2.out).mono ?_
 rintro e w41 ⟨p41,q41,r41,t41,rfl,hp41,hq41,hr41,ht41⟩
 have b41:=hp41.below
 replace hp41:=hp41.back hBW
 replace hq41:=hq41.back hBW
 replace hr41:=hr41.back hBW
 replace ht41:=ht41.back hBW
 replace hBW:=hBW.trans (b41.mono hBW.size)
 replace q00:=below_cell b41 q00
 replace q01:=below_cell b41 q01
 replace q02:=below_cell b41 q02
 replace q03:=below_cell b41 q03
 replace q04:=below_cell b41 q04
 replace q05:=below_cell b41 q05
 replace q10:=below_cell b41 q10
 replace q11:=below_cell b41 q11
 replace q12:=below_cell b41 q12
 replace q13:=below_cell b41 q13
 replace q14:=below_cell b41 q14
 replace q15:=below_cell b41 q15
 go_wp2_with fail
 refine (vdSign_is (ng Z) p41 (ln (am Z)) (ln (am Z)) (am Z) q41 (ln V) (ln V) V (ng Z2) r41 (ln (am Z2)) (ln (am Z2)) (am Z2) t41 (ln V2) (ln V2) V2 C1 C2 _ (Nat.le_refl _) (by omega) hp41.seg (Nat.le_refl _) (by omega) hq41.seg (Nat.le_refl _) (by omega) hr41.seg (Nat.le_refl _) (by omega) ht41.seg G3.out G4.out).mono ?_
 rintro e w42 ⟨rfl,b42⟩
 replace hBW:=hBW.trans (b42.mono hBW.size)
 replace q00:=below_cell b42 q00
 replace q01:=below_cell b42 q01
 replace q02:=below_cell b42 q02
 replace q03:=below_cell b42 q03
 replace q04:=below_cell b42 q04
 replace q05:=below_cell b42 q05
 replace q10:=below_cell b42 q10
 replace q11:=below_cell b42 q11
 replace q12:=below_cell b42 q12
 replace q13:=below_cell b42 q13
 replace q14:=below_cell b42 q14
 replace q15:=below_cell b42 q15
 replace hp41:=hp41.later b42
 replace hq41:=hq41.later b42
 replace hr41:=hr41.later b42
 replace ht41:=ht41.later b42
 go_wp2
 go_ret
 exact ⟨rfl,hB.trans (hBW.mono hB.size)⟩
end Go.Proofs.YtfppjaoddicgpaaGreatDoor
