import Derived.Test.YtgfmaejhdbmkoaaGreatWQ0
import Derived.Test.YtgfmaejhdbmkoaaGreatWL3
import Derived.Test.YtgfmaejhdbmkoaaGreatWN4
import Derived.Test.YtgfmaejhdbmkoaaGreatWN5
set_option linter.unusedSimpArgs false
namespace Go.Proofs.YtgfmaejhdbmkoaaGreat
open Go.RowKit
set_option linter.unusedVariables false
set_option maxHeartbeats 2000000 in
set_option maxRecDepth 30000 in
theorem SameQ_is (Z:Int) (V:Nat) (p q p2 q2:Option Addr) (w:World) (hm:ln (am Z)≤70368744177664) (hm2:ln V≤70368744177664) (hS:Seg w p (am Z) (ln (am Z))) (hT:Seg w q V (ln V)) (hS2:Seg w p2 (am Z) (ln (am Z))) (hT2:Seg w q2 V (ln V)) :
  Calls Tryz.prog 23 #[.agg #[.bool (ng Z),.slice p (ln (am Z)) (ln (am Z)),.slice q (ln V) (ln V)],.agg #[.bool (ng Z),.slice p2 (ln (am Z)) (ln (am Z)),.slice q2 (ln V) (ln V)]] w fun e w'=>e=.returned (.bool true)∧Below w.heap.size w w':=by
 have hs:=sameB_self (ln (am Z)) (am Z)
 have hs2:=sameB_self (ln V) V
 have hbb:(ng Z == ng Z)=true:=by simp
 have H1:=xQ1 (fun w' k1 k2=>Same_any p p2 (ln (am Z)) (ln (am Z)) (am Z) (ln (am Z)) (ln (am Z)) (am Z) w' hm hm k1 k2)
 have H2:=xQ1 (fun w' k1 k2=>Same_any q q2 (ln V) (ln V) V (ln V) (ln V) V w' hm2 hm2 k1 k2)
 go_enter Tryz.func23,Tryz.ntmps23
 go_wp2_with fail
 obtain ⟨W,hW⟩:∃ W,((w.alloc (.cells #[.bool (ng Z),.slice p (ln (am Z)) (ln (am Z)),.slice q (ln V) (ln V)] 55)).alloc (.cells #[.bool (ng Z),.slice p2 (ln (am Z)) (ln (am Z)),.slice q2 (ln V) (ln V)] 55))=W:=⟨_,rfl⟩
 have q00:W.cell? ⟨w.heap.size,0,none⟩=some (.bool (ng Z)):=by subst hW;go_simp
 have q01:W.cell? ⟨w.heap.size,1,none⟩=some (.slice p (ln (am Z)) (ln (am Z))):=by subst hW;go_simp
 have q02:W.cell? ⟨w.heap.size,2,none⟩=some (.slice q (ln V) (ln V)):=by subst hW;go_simp
 have q10:W.cell? ⟨w.heap.size+1,0,none⟩=some (.bool (ng Z)):=by subst hW;go_simp
 have q11:W.cell? ⟨w.heap.size+1,1,none⟩=some (.slice p2 (ln (am Z)) (ln (am Z))):=by subst hW;go_simp
 have q12:W.cell? ⟨w.heap.size+1,2,none⟩=some (.slice q2 (ln V) (ln V)):=by subst hW;go_simp
 have hB:Below w.heap.size w W:=by subst hW;exact (((Below.refl _ _).alloc (by (try simp only [World.size_alloc]);omega) _).alloc (by (try simp only [World.size_alloc]);omega) _)
 have hz:W.heap.size=w.heap.size+1+1:=by subst hW;simp only [World.size_alloc]
 rw [hW]
 clear hW
 have hBW:Below W.heap.size W W:=Below.refl _ _
 refine (H1.out _ (sb hS hB hBW) (sb hS2 hB hBW)).mono ?_
 rintro e w41 ⟨rfl,dd41⟩
 have b41:=dd41.below W.heap.size
 replace hBW:=hBW.trans (b41.mono hBW.size)
 replace q00:=xQ0 b41 q00
 replace q01:=xQ0 b41 q01
 replace q02:=xQ0 b41 q02
 replace q10:=xQ0 b41 q10
 replace q11:=xQ0 b41 q11
 replace q12:=xQ0 b41 q12
 go_wp2_with fail
 refine (H2.out _ (sb hT hB hBW) (sb hT2 hB hBW)).mono ?_
 rintro e w42 ⟨rfl,dd42⟩
 have b42:=dd42.below w41.heap.size
 replace hBW:=hBW.trans (b42.mono hBW.size)
 replace q00:=xQ0 b42 q00
 replace q01:=xQ0 b42 q01
 replace q02:=xQ0 b42 q02
 replace q10:=xQ0 b42 q10
 replace q11:=xQ0 b42 q11
 replace q12:=xQ0 b42 q12
 go_wp2
 go_ret
 exact ⟨rfl,hB.trans (hBW.mono hB.size)⟩
end Go.Proofs.YtgfmaejhdbmkoaaGreat
