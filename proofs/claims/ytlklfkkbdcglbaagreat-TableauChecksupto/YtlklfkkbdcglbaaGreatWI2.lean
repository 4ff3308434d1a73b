import Derived.Test.YtlklfkkbdcglbaaGreatWI1
set_option linter.unusedSimpArgs false
namespace Go.Proofs.YtlklfkkbdcglbaaGreat
open Go.RowKit
set_option linter.unusedVariables false
set_option maxHeartbeats 1000000 in
theorem wOf_is (z:Int) (w:World) (h1:-9223372036854775808≤z) (h2:z≤9223372036854775807) :
  Calls Tryz.prog 143 #[.int .i64 z] w fun e w'=>∃ ao',e=.returned (.agg #[.bool (ng z),.slice ao' (ln (am z)) (ln (am z))])∧New w w' ao' (am z) (ln (am z)):=by
 by_cases hz:z < 0
 ·obtain ⟨m,hm⟩:∃ m:Nat,z = -(m:Int):=⟨z.toNat+(-z).toNat,by omega⟩
  have hZ:sg true m=z:=by rw [hm];rfl
  have HM:Hid (z = -(m:Int)):=hm
  clear hm
  have hm63:m≤9223372036854775808:=by have:=HM.out;omega
  have hl:ln m≤2:=ln_le_of_lt (by rw [BB2];omega)
  go_enter Tryz.func143,Tryz.ntmps143
  go_wp2_with fail
  rw [show IntKind.u64.wrap (-IntKind.u64.wrap z)=(m:Int) by have:=HM.out;simp only [IntKind.wrap_u64];omega]
  obtain ⟨W,hW⟩:∃ W,(w.alloc (.cells #[.bool false,.slice none 0 0] 72))=W:=⟨_,rfl⟩
  have r00:W.cell? ⟨w.heap.size,0,none⟩=some (.bool false):=by subst hW;go_simp
  have r01:W.cell? ⟨w.heap.size,1,none⟩=some (.slice none 0 0):=by subst hW;go_simp
  have hB:Below w.heap.size w W:=by subst hW;exact ((Below.refl _ _).alloc (by (try simp only [World.size_alloc]);omega) _)
  have hR0:Row W (w.heap.size):=by
   have:=row_new (w) #[.bool false,.slice none 0 0] 72
   try simp only [World.size_alloc] at this
   subst hW;exact this
  have hz:W.heap.size=w.heap.size+1:=by subst hW;simp only [World.size_alloc]
  rw [hW]
  clear hW
  have hBW:Below W.heap.size W W:=Below.refl _ _
  go_wp2_with fail
  refine (Of_any m _ (by omega)).mono ?_
  rintro e w1 ⟨a1,rfl,hn⟩
  have b1:=hn.below
  replace hn:=hn.back hBW
  replace hBW:=hBW.trans (b1.mono hBW.size)
  replace r00:=below_cell b1 r00
  replace r01:=below_cell b1 r01
  replace hR0:=below_row b1 hR0
  go_wp2_with fail
  refine (signed1 a1 (ln m) (ln m) true _ (by omega)).mono ?_
  rintro e w2 ⟨rfl,b2⟩
  replace hBW:=hBW.trans (b2.mono hBW.size)
  replace r00:=below_cell b2 r00
  replace r01:=below_cell b2 r01
  replace hR0:=below_row b2 hR0
  replace hn:=hn.later b2
  have fz0:=fun o=>hR0.frozen o
  go_wp2
  refine bodyPost_ret (v:=.agg #[.bool (true && decide (0 < ln m)),.slice a1 (ln m) (ln m)]) (by rw [results_cell rfl];go_simp) rfl ?_
  exact ⟨a1,res_eq hZ,NewI (hn.ret hB (by omega) (by omega) _ _) hZ⟩
 ·obtain ⟨m,rfl⟩:∃ m:Nat,z=(m:Int):=⟨z.toNat,by omega⟩
  have hZ:sg false m=(m:Int):=rfl
  have hl:ln m≤2:=ln_le_of_lt (by rw [BB2];omega)
  go_enter Tryz.func143,Tryz.ntmps143
  go_wp2_with fail
  try rw [show IntKind.u64.wrap (m:Int)=(m:Int) by simp only [IntKind.wrap_u64];omega]
  obtain ⟨W,hW⟩:∃ W,(w.alloc (.cells #[.bool false,.slice none 0 0] 72))=W:=⟨_,rfl⟩
  have r00:W.cell? ⟨w.heap.size,0,none⟩=some (.bool false):=by subst hW;go_simp
  have r01:W.cell? ⟨w.heap.size,1,none⟩=some (.slice none 0 0):=by subst hW;go_simp
  have hB:Below w.heap.size w W:=by subst hW;exact ((Below.refl _ _).alloc (by (try simp only [World.size_alloc]);omega) _)
  have hR0:Row W (w.heap.size):=by
   have:=row_new (w) #[.bool false,.slice none 0 0] 72
   try simp only [World.size_alloc] at this
   subst hW;exact this
  have hz:W.heap.size=w.heap.size+1:=by subst hW;simp only [World.size_alloc]
  rw [hW]
  clear hW
  have hBW:Below W.heap.size W W:=Below.refl _ _
  go_wp2_with fail
  refine (Of_any m _ (by omega)).mono ?_
  rintro e w1 ⟨a1,rfl,hn⟩
  have b1:=hn.below
  replace hn:=hn.back hBW
  replace hBW:=hBW.trans (b1.mono hBW.size)
  replace r00:=below_cell b1 r00
  replace r01:=below_cell b1 r01
  replace hR0:=below_row b1 hR0
  go_wp2_with fail
  refine (signed0 a1 (ln m) (ln m) _ (by omega)).mono ?_
  rintro e w2 ⟨rfl,b2⟩
  replace hBW:=hBW.trans (b2.mono hBW.size)
  replace r00:=below_cell b2 r00
  replace r01:=below_cell b2 r01
  replace hR0:=below_row b2 hR0
  replace hn:=hn.later b2
  have fz0:=fun o=>hR0.frozen o
  go_wp2
  refine bodyPost_ret (v:=.agg #[.bool false,.slice a1 (ln m) (ln m)]) (by rw [results_cell rfl];go_simp) rfl ?_
  have:=@res_eq false a1 m _ hZ
  simp only [Bool.false_and] at this
  exact ⟨a1,this,NewI (hn.ret hB (by omega) (by omega) _ _) hZ⟩
set_option maxHeartbeats 1000000 in
theorem made_is (s:Bool) (ao:Option Addr) (n cap X:Nat) (Z:Int) (w:World) (hm:n≤70368744177664) (hS:Seg w ao X n) (hZ:sg s X=Z) :
  Calls Tryz.prog 137 #[.bool s,.slice ao n cap] w fun e w'=>∃ ao',e=.returned (.agg #[.bool (ng Z),.slice ao' (ln (am Z)) (ln (am Z))])∧New w w' ao' (am Z) (ln (am Z)):=by
 have hl:=ln_le_of_lt hS.1
 cases s
 ·go_enter Tryz.func137,Tryz.ntmps137
  go_wp2_with fail
  obtain ⟨W,hW⟩:∃ W,(w.alloc (.cells #[.bool false,.slice none 0 0] 72))=W:=⟨_,rfl⟩
  have r00:W.cell? ⟨w.heap.size,0,none⟩=some (.bool false):=by subst hW;go_simp
  have r01:W.cell? ⟨w.heap.size,1,none⟩=some (.slice none 0 0):=by subst hW;go_simp
  have hB:Below w.heap.size w W:=by subst hW;exact ((Below.refl _ _).alloc (by (try simp only [World.size_alloc]);omega) _)
  have hR0:Row W (w.heap.size):=by
   have:=row_new (w) #[.bool false,.slice none 0 0] 72
   try simp only [World.size_alloc] at this
   subst hW;exact this
  have hz:W.heap.size=w.heap.size+1:=by subst hW;simp only [World.size_alloc]
  rw [hW]
  clear hW
  have hBW:Below W.heap.size W W:=Below.refl _ _
  go_wp2_with fail
  refine (rNorm_any ao n cap X _ (by omega) (sb hS hB hBW)).mono ?_
  rintro e w1 ⟨a1,rfl,hn⟩
  have b1:=hn.below
  replace hn:=hn.back hBW
  replace hBW:=hBW.trans (b1.mono hBW.size)
  replace r00:=below_cell b1 r00
  replace r01:=below_cell b1 r01
  replace hR0:=below_row b1 hR0
  have fz0:=fun o=>hR0.frozen o
  go_wp2
  refine bodyPost_ret (v:=.agg #[.bool false,.slice a1 (ln X) (ln X)]) (by rw [results_cell rfl];go_simp) rfl ?_
  have:=@res_eq false a1 X Z hZ
  simp only [Bool.false_and] at this
  exact ⟨a1,this,NewI (hn.ret hB (by omega) (by omega) _ _) hZ⟩
 ·by_cases h0:0 < ln X
  ·go_enter Tryz.func137,Tryz.ntmps137
   go_wp2_with fail
   obtain ⟨W,hW⟩:∃ W,(w.alloc (.cells #[.bool false,.slice none 0 0] 72))=W:=⟨_,rfl⟩
   have r00:W.cell? ⟨w.heap.size,0,none⟩=some (.bool false):=by subst hW;go_simp
   have r01:W.cell? ⟨w.heap.size,1,none⟩=some (.slice none 0 0):=by subst hW;go_simp
   have hB:Below w.heap.size w W:=by subst hW;exact ((Below.refl _ _).alloc (by (try simp only [World.size_alloc]);omega) _)
   have hR0:Row W (w.heap.size):=by
    have:=row_new (w) #[.bool false,.slice none 0 0] 72
    try simp only [World.size_alloc] at this
    subst hW;exact this
   have hz:W.heap.size=w.heap.size+1:=by subst hW;simp only [World.size_alloc]
   rw [hW]
   clear hW
   have hBW:Below W.heap.size W W:=Below.refl _ _
   go_wp2_with fail
   refine (rNorm_any ao n cap X _ (by omega) (sb hS hB hBW)).mono ?_
   rintro e w1 ⟨a1,rfl,hn⟩
   have b1:=hn.below
   replace hn:=hn.back hBW
   replace hBW:=hBW.trans (b1.mono hBW.size)
   replace r00:=below_cell b1 r00
   replace r01:=below_cell b1 r01
   replace hR0:=below_row b1 hR0
   have fz0:=fun o=>hR0.frozen o
   go_wp2
   refine bodyPost_ret (v:=.agg #[.bool true,.slice a1 (ln X) (ln X)]) (by rw [results_cell rfl];go_simp) rfl ?_
   have:=@res_eq true a1 X Z hZ
   simp only [Bool.true_and,decide_eq_true h0] at this
   exact ⟨a1,this,NewI (hn.ret hB (by omega) (by omega) _ _) hZ⟩
  ·have hx:ln X=0:=by omega
   have HX:Hid (ln X=0):=hx
   go_enter Tryz.func137,Tryz.ntmps137
   go_wp2_with fail
   obtain ⟨W,hW⟩:∃ W,(w.alloc (.cells #[.bool false,.slice none 0 0] 72))=W:=⟨_,rfl⟩
   have r00:W.cell? ⟨w.heap.size,0,none⟩=some (.bool false):=by subst hW;go_simp
   have r01:W.cell? ⟨w.heap.size,1,none⟩=some (.slice none 0 0):=by subst hW;go_simp
   have hB:Below w.heap.size w W:=by subst hW;exact ((Below.refl _ _).alloc (by (try simp only [World.size_alloc]);omega) _)
   have hR0:Row W (w.heap.size):=by
    have:=row_new (w) #[.bool false,.slice none 0 0] 72
    try simp only [World.size_alloc] at this
    subst hW;exact this
   have hz:W.heap.size=w.heap.size+1:=by subst hW;simp only [World.size_alloc]
   rw [hW]
   clear hW
   have hBW:Below W.heap.size W W:=Below.refl _ _
   go_wp2_with fail
   refine (rNorm_any ao n cap X _ (by omega) (sb hS hB hBW)).mono ?_
   rintro e w1 ⟨a1,rfl,hn⟩
   have b1:=hn.below
   replace hn:=hn.back hBW
   replace hBW:=hBW.trans (b1.mono hBW.size)
   replace r00:=below_cell b1 r00
   replace r01:=below_cell b1 r01
   replace hR0:=below_row b1 hR0
   have fz0:=fun o=>hR0.frozen o
   go_wp2
   refine bodyPost_ret (v:=.agg #[.bool false,.slice a1 (ln X) (ln X)]) (by rw [results_cell rfl];go_simp) rfl ?_
   have:=@res_eq true a1 X Z hZ
   simp only [Bool.true_and,decide_eq_false h0] at this
   exact ⟨a1,this,NewI (hn.ret hB (by omega) (by omega) _ _) hZ⟩
set_option maxHeartbeats 1000000 in
theorem vNorm_is (s:Bool) (ao:Option Addr) (n cap X:Nat) (Z:Int) (w:World) (hm:n≤70368744177664) (hS:Seg w ao X n) (hZ:sg s X=Z) :
  Calls Tryz.prog 106 #[.agg #[.bool s,.slice ao n cap]] w fun e w'=>∃ ao',e=.returned (.agg #[.bool (ng Z),.slice ao' (ln (am Z)) (ln (am Z))])∧New w w' ao' (am Z) (ln (am Z)):=by
 go_enter Tryz.func106,Tryz.ntmps106
 go_wp2_with fail
 obtain ⟨W,hW⟩:∃ W,((w.alloc (.cells #[.bool s,.slice ao n cap] 72)).alloc (.cells #[.bool false,.slice none 0 0] 72))=W:=⟨_,rfl⟩
 have q00:W.cell? ⟨w.heap.size,0,none⟩=some (.bool s):=by subst hW;go_simp
 have q01:W.cell? ⟨w.heap.size,1,none⟩=some (.slice ao n cap):=by subst hW;go_simp
 have r00:W.cell? ⟨w.heap.size+1,0,none⟩=some (.bool false):=by subst hW;go_simp
 have r01:W.cell? ⟨w.heap.size+1,1,none⟩=some (.slice none 0 0):=by subst hW;go_simp
 have hB:Below w.heap.size w W:=by subst hW;exact (((Below.refl _ _).alloc (by (try simp only [World.size_alloc]);omega) _).alloc (by (try simp only [World.size_alloc]);omega) _)
 have hR0:Row W (w.heap.size+1):=by
  have:=row_new ((w.alloc (.cells #[.bool s,.slice ao n cap] 72))) #[.bool false,.slice none 0 0] 72
  try simp only [World.size_alloc] at this
  subst hW;exact this
 have hz:W.heap.size=w.heap.size+1+1:=by subst hW;simp only [World.size_alloc]
 rw [hW]
 clear hW
 have hBW:Below W.heap.size W W:=Below.refl _ _
 go_wp2_with fail
 refine (made_is s ao n cap X Z _ hm (sb hS hB hBW) hZ).mono ?_
 rintro e w1 ⟨a1,rfl,hn⟩
 have b1:=hn.below
 replace hn:=hn.back hBW
 replace hBW:=hBW.trans (b1.mono hBW.size)
 replace q00:=below_cell b1 q00
 replace q01:=below_cell b1 q01
 replace r00:=below_cell b1 r00
 replace r01:=below_cell b1 r01
 replace hR0:=below_row b1 hR0
 have fz0:=fun o=>hR0.frozen o
 go_wp2
 refine bodyPost_ret (v:=.agg #[.bool (ng Z),.slice a1 (ln (am Z)) (ln (am Z))]) (by rw [results_cell rfl];go_simp) rfl ?_
 exact ⟨a1,rfl,hn.ret hB (by omega) (by omega) _ _⟩
set_option maxHeartbeats 1000000 in
theorem vOf_is (z:Int) (w:World) (h1:-9223372036854775808≤z) (h2:z≤9223372036854775807) :
  Calls Tryz.prog 95 #[.int .i64 z] w fun e w'=>∃ ao',e=.returned (.agg #[.bool (ng z),.slice ao' (ln (am z)) (ln (am z))])∧New w w' ao' (am z) (ln (am z)):=by
 by_cases hz:z < 0
 ·obtain ⟨m,hm⟩:∃ m:Nat,z = -(m:Int):=⟨z.toNat+(-z).toNat,by omega⟩
  have hZ:sg true m=z:=by rw [hm];rfl
  have HM:Hid (z = -(m:Int)):=hm
  clear hm
  have hm63:m≤9223372036854775808:=by have:=HM.out;omega
  have hl:ln m≤2:=ln_le_of_lt (by rw [BB2];omega)
  go_enter Tryz.func95,Tryz.ntmps95
  go_wp2_with fail
  first | rw [show IntKind.u64.wrap (0 - IntKind.u64.wrap z)=(m:Int) by have:=HM.out;simp only [IntKind.wrap_u64];omega] | rw [show IntKind.u64.wrap (-IntKind.u64.wrap z)=(m:Int) by have:=HM.out;simp only [IntKind.wrap_u64];omega]
  obtain ⟨W,hW⟩:∃ W,(w.alloc (.cells #[.bool false,.slice none 0 0] 72))=W:=⟨_,rfl⟩
  have r00:W.cell? ⟨w.heap.size,0,none⟩=some (.bool false):=by subst hW;go_simp
  have r01:W.cell? ⟨w.heap.size,1,none⟩=some (.slice none 0 0):=by subst hW;go_simp
  have hB:Below w.heap.size w W:=by subst hW;exact ((Below.refl _ _).alloc (by (try simp only [World.size_alloc]);omega) _)
  have hR0:Row W (w.heap.size):=by
   have:=row_new (w) #[.bool false,.slice none 0 0] 72
   try simp only [World.size_alloc] at this
   subst hW;exact this
  have hz:W.heap.size=w.heap.size+1:=by subst hW;simp only [World.size_alloc]
  rw [hW]
  clear hW
  have hBW:Below W.heap.size W W:=Below.refl _ _
  go_wp2_with fail
  refine (rOf_any m _ (by omega)).mono ?_
  rintro e w1 ⟨a1,rfl,hn⟩
  have b1:=hn.below
  replace hn:=hn.back hBW
  replace hBW:=hBW.trans (b1.mono hBW.size)
  replace r00:=below_cell b1 r00
  replace r01:=below_cell b1 r01
  replace hR0:=below_row b1 hR0
  go_wp2_with fail
  refine (made_is true a1 _ _ m z _ (by omega) hn.seg hZ).mono ?_
  rintro e w2 ⟨a2,rfl,hm⟩
  have b2:=hm.below
  replace hm:=hm.back hBW
  replace hBW:=hBW.trans (b2.mono hBW.size)
  replace r00:=below_cell b2 r00
  replace r01:=below_cell b2 r01
  replace hR0:=below_row b2 hR0
  replace hn:=hn.later b2
  have fz0:=fun o=>hR0.frozen o
  go_wp2
  refine bodyPost_ret (v:=.agg #[.bool (ng z),.slice a2 (ln (am z)) (ln (am z))]) (by rw [results_cell rfl];go_simp) rfl ?_
  exact ⟨a2,rfl,hm.ret hB (by omega) (by omega) _ _⟩
 ·obtain ⟨m,rfl⟩:∃ m:Nat,z=(m:Int):=⟨z.toNat,by omega⟩
  have hZ:sg false m=(m:Int):=rfl
  have hl:ln m≤2:=ln_le_of_lt (by rw [BB2];omega)
  go_enter Tryz.func95,Tryz.ntmps95
  go_wp2_with fail
  try rw [show IntKind.u64.wrap (m:Int)=(m:Int) by simp only [IntKind.wrap_u64];omega]
  obtain ⟨W,hW⟩:∃ W,(w.alloc (.cells #[.bool false,.slice none 0 0] 72))=W:=⟨_,rfl⟩
  have r00:W.cell? ⟨w.heap.size,0,none⟩=some (.bool false):=by subst hW;go_simp
  have r01:W.cell? ⟨w.heap.size,1,none⟩=some (.slice none 0 0):=by subst hW;go_simp
  have hB:Below w.heap.size w W:=by subst hW;exact ((Below.refl _ _).alloc (by (try simp only [World.size_alloc]);omega) _)
  have hR0:Row W (w.heap.size):=by
   have:=row_new (w) #[.bool false,.slice none 0 0] 72
   try simp only [World.size_alloc] at this
   subst hW;exact this
  have hz:W.heap.size=w.heap.size+1:=by subst hW;simp only [World.size_alloc]
  rw [hW]
  clear hW
  have hBW:Below W.heap.size W W:=Below.refl _ _
  go_wp2_with fail
  refine (rOf_any m _ (by omega)).mono ?_
  rintro e w1 ⟨a1,rfl,hn⟩
  have b1:=hn.below
  replace hn:=hn.back hBW
  replace hBW:=hBW.trans (b1.mono hBW.size)
  replace r00:=below_cell b1 r00
  replace r01:=below_cell b1 r01
  replace hR0:=below_row b1 hR0
  go_wp2_with fail
  refine (made_is false a1 _ _ m m _ (by omega) hn.seg hZ).mono ?_
  rintro e w2 ⟨a2,rfl,hm⟩
  have b2:=hm.below
  replace hm:=hm.back hBW
  replace hBW:=hBW.trans (b2.mono hBW.size)
  replace r00:=below_cell b2 r00
  replace r01:=below_cell b2 r01
  replace hR0:=below_row b2 hR0
  replace hn:=hn.later b2
  have fz0:=fun o=>hR0.frozen o
  go_wp2
  refine bodyPost_ret (v:=.agg #[.bool (ng m),.slice a2 (ln (am m)) (ln (am m))]) (by rw [results_cell rfl];go_simp) rfl ?_
  exact ⟨a2,rfl,hm.ret hB (by omega) (by omega) _ _⟩
end Go.Proofs.YtlklfkkbdcglbaaGreat
