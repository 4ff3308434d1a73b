import Derived.Test.YtlklfkkbdcglbaaGreatWQ3
set_option linter.unusedSimpArgs false
namespace Go.Proofs.YtlklfkkbdcglbaaGreat
open Go.RowKit
set_option linter.unusedVariables false
set_option maxHeartbeats 4000000 in
set_option maxRecDepth 100000 in
theorem qAdd_is (s0:Bool) (a0:Option Addr) (n0 c0 X0:Nat) (b0:Option Addr) (m0 d0 Y0:Nat) (s1:Bool) (a1:Option Addr) (n1 c1 X1:Nat) (b1:Option Addr) (m1 d1 Y1:Nat) (Z:Int) (V:Nat) (w:World) (hc0:n0≤c0) (hm0:n0≤1099511627776) (hS0:Seg w a0 X0 n0) (hd0:m0≤d0) (hk0:m0≤1099511627776) (hT0:Seg w b0 Y0 m0) (hc1:n1≤c1) (hm1:n1≤1099511627776) (hS1:Seg w a1 X1 n1) (hd1:m1≤d1) (hk1:m1≤1099511627776) (hT1:Seg w b1 Y1 m1) (hL:Low (rn s0 X0 Y0*(rd Y1:Nat)+rn s1 X1 Y1*(rd Y0:Nat)) ((rd Y0:Nat)*(rd Y1:Nat)) Z V) :
  Calls Tryz.prog 121 #[Value.agg #[Value.bool s0,Value.slice a0 n0 c0,Value.slice b0 m0 d0],Value.agg #[Value.bool s1,Value.slice a1 n1 c1,Value.slice b1 m1 d1]] w fun e w'=>∃ p q,e=.returned (.agg #[.bool (ng Z),.slice p (ln (am Z)) (ln (am Z)),.slice q (ln V) (ln V)])∧New w w' p (am Z) (ln (am Z))∧New w w' q V (ln V):=by
 have HL:=hide' hL
 clear hL
 go_enter Tryz.func121,Tryz.ntmps121
 go_wp2_with fail
 obtain ⟨W,hW⟩:∃ W,(((w.alloc (.cells #[.bool s0,.slice a0 n0 c0,.slice b0 m0 d0] 74)).alloc (.cells #[.bool s1,.slice a1 n1 c1,.slice b1 m1 d1] 74)).alloc (.cells #[.bool false,.slice none 0 0,.slice none 0 0] 74))=W:=⟨_,rfl⟩
 have q00:W.cell? ⟨w.heap.size,0,none⟩=some (.bool s0):=by subst hW;go_simp
 have q01:W.cell? ⟨w.heap.size,1,none⟩=some (.slice a0 n0 c0):=by subst hW;go_simp
 have q02:W.cell? ⟨w.heap.size,2,none⟩=some (.slice b0 m0 d0):=by subst hW;go_simp
 have q10:W.cell? ⟨w.heap.size+1,0,none⟩=some (.bool s1):=by subst hW;go_simp
 have q11:W.cell? ⟨w.heap.size+1,1,none⟩=some (.slice a1 n1 c1):=by subst hW;go_simp
 have q12:W.cell? ⟨w.heap.size+1,2,none⟩=some (.slice b1 m1 d1):=by subst hW;go_simp
 have r00:W.cell? ⟨w.heap.size+1+1,0,none⟩=some (.bool false):=by subst hW;go_simp
 have r01:W.cell? ⟨w.heap.size+1+1,1,none⟩=some (.slice none 0 0):=by subst hW;go_simp
 have r02:W.cell? ⟨w.heap.size+1+1,2,none⟩=some (.slice none 0 0):=by subst hW;go_simp
 have hB:Below w.heap.size w W:=by subst hW;exact ((((Below.refl _ _).alloc (by (try simp only [World.size_alloc]);omega) _).alloc (by (try simp only [World.size_alloc]);omega) _).alloc (by (try simp only [World.size_alloc]);omega) _)
 have hR0:Row W (w.heap.size+1+1):=by
  have:=row_new (((w.alloc (.cells #[.bool s0,.slice a0 n0 c0,.slice b0 m0 d0] 74)).alloc (.cells #[.bool s1,.slice a1 n1 c1,.slice b1 m1 d1] 74))) #[.bool false,.slice none 0 0,.slice none 0 0] 74
  try simp only [World.size_alloc] at this
  subst hW;exact this
 have hz:W.heap.size=w.heap.size+1+1+1:=by subst hW;simp only [World.size_alloc]
 rw [hW]
 clear hW
 have hBW:Below W.heap.size W W:=Below.refl _ _
 replace hBW:=hBW.drew
 first
  | go_region_held3 (fun w'=>w'.cell? ⟨w.heap.size,0,none⟩=some (.bool s0)∧w'.cell? ⟨w.heap.size,1,none⟩=some (.slice a0 n0 c0)∧w'.cell? ⟨w.heap.size,2,none⟩=some (.slice b0 m0 d0)∧w'.cell? ⟨w.heap.size+1,0,none⟩=some (.bool s1)∧w'.cell? ⟨w.heap.size+1,1,none⟩=some (.slice a1 n1 c1)∧w'.cell? ⟨w.heap.size+1,2,none⟩=some (.slice b1 m1 d1)∧Below w.heap.size w w')
    (first | exact ⟨q00,q01,q02,q10,q11,q12,hB.trans (hBW.mono hB.size)⟩ | exact kp6 b11 (by assumption) | exact kp6 b12 (by assumption) | exact kp6 b13 (by assumption) | exact kp6 (below_alloc _) (by assumption) | exact kp6 (below_alloc _) ⟨q00,q01,q02,q10,q11,q12,hB.trans (hBW.mono hB.size)⟩ | exact kpT6_3 (by assumption) (by omega) (by omega) (by omega) (by omega) (by omega) (by omega) (by omega))
    (first
     | (go_at_call 144;go_at_call_of 144 (Value.agg #[Value.bool s0,Value.slice a0 n0 c0,Value.slice b0 m0 d0]);(fail_if_success clear b11);refine (read_is s0 a0 n0 c0 X0 b0 m0 d0 Y0 1099511627776 _ hc0 hm0 (sb hS0 hB hBW) hd0 hk0 (sb hT0 hB hBW) (by omega) (by omega)).mono ?_;rintro e w11 ⟨zs11,zp11,zn11,zc11,zX11,zq11,zm11,zd11,rfl,ga11,gb11,gc11,gd11,kS11,kT11,ge11,bb11⟩;have b11:=bb11;replace hBW:=hBW.trans (b11.mono hBW.size);replace q00:=below_cell b11 q00;replace q01:=below_cell b11 q01;replace q02:=below_cell b11 q02;replace q10:=below_cell b11 q10;replace q11:=below_cell b11 q11;replace q12:=below_cell b11 q12;replace r00:=below_cell b11 r00;replace r01:=below_cell b11 r01;replace r02:=below_cell b11 r02;replace hR0:=below_row b11 hR0)
     | (go_at_call 144;go_at_call_of 144 (Value.agg #[Value.bool s1,Value.slice a1 n1 c1,Value.slice b1 m1 d1]);(fail_if_success clear b12);refine (read_is s1 a1 n1 c1 X1 b1 m1 d1 Y1 1099511627776 _ hc1 hm1 (sb hS1 hB hBW) hd1 hk1 (sb hT1 hB hBW) (by omega) (by omega)).mono ?_;rintro e w12 ⟨zs12,zp12,zn12,zc12,zX12,zq12,zm12,zd12,rfl,ga12,gb12,gc12,gd12,kS12,kT12,ge12,bb12⟩;have b12:=bb12;replace hBW:=hBW.trans (b12.mono hBW.size);replace q00:=below_cell b12 q00;replace q01:=below_cell b12 q01;replace q02:=below_cell b12 q02;replace q10:=below_cell b12 q10;replace q11:=below_cell b12 q11;replace q12:=below_cell b12 q12;replace r00:=below_cell b12 r00;replace r01:=below_cell b12 r01;replace r02:=below_cell b12 r02;replace hR0:=below_row b12 hR0;replace kS11:=kS11.later b12;replace kT11:=kT11.later b12)
     | (go_at_call 157;(fail_if_success clear b13);refine (qsum_is zs11 zp11 zn11 zc11 zX11 zq11 zm11 zd11 (rd Y0) zs12 zp12 zn12 zc12 zX12 zq12 zm12 zd12 (rd Y1) _ _ Z V _ ga11 gb11 kS11 gc11 gd11 kT11 ga12 gb12 kS12 gc12 gd12 kT12 ge11 ge12 HL.out).mono ?_;rintro e w13 ⟨p13,q13,rfl,hp13,hq13⟩;have b13:=hp13.below;replace hp13:=hp13.back hBW;replace hq13:=hq13.back hBW;replace hBW:=hBW.trans (b13.mono hBW.size);replace q00:=below_cell b13 q00;replace q01:=below_cell b13 q01;replace q02:=below_cell b13 q02;replace q10:=below_cell b13 q10;replace q11:=below_cell b13 q11;replace q12:=below_cell b13 q12;replace r00:=below_cell b13 r00;replace r01:=below_cell b13 r01;replace r02:=below_cell b13 r02;replace hR0:=below_row b13 hR0;replace kS11:=kS11.later b13;replace kT11:=kT11.later b13;replace kS12:=kS12.later b13;replace kT12:=kT12.later b13;have fz:=fun o=>hR0.frozen o))
  | fail
 have fz0:=fun o=>hR0.frozen o
 go_wp2
 all_goals refine bodyPost_ret (v:=Value.agg #[Value.bool (ng Z),Value.slice p13 (ln (am Z)) (ln (am Z)),Value.slice q13 (ln V) (ln V)]) (by rw [results_cell rfl];go_simp) rfl ?_
 all_goals exact ⟨p13,q13,rfl,hp13.mid hB (((((Mid.refl _ _ _).set _ _ (by omega) (by omega) _).set _ _ (by omega) (by omega) _).set _ _ (by omega) (by omega) _)),hq13.mid hB (((((Mid.refl _ _ _).set _ _ (by omega) (by omega) _).set _ _ (by omega) (by omega) _).set _ _ (by omega) (by omega) _))⟩
end Go.Proofs.YtlklfkkbdcglbaaGreat
