import Derived.Test.YtfppjaoddicgpaaGreatDoorWV6
import Derived.Test.YtfppjaoddicgpaaGreatDoorWQN
import Derived.Test.YtfppjaoddicgpaaGreatDoorWD0
set_option linter.unusedSimpArgs false
namespace Go.Proofs.YtfppjaoddicgpaaGreatDoor
open Go.RowKit
set_option linter.unusedVariables false
set_option maxHeartbeats 1000000 in
set_option maxRecDepth 100000 in
theorem wText_3 (a:Option Addr) (w:World) (h:Digits w) (hS:Seg w a 3 1):Calls Tryz.prog 123 #[.agg #[.bool false,.slice a 1 1]] w fun e w'=>e=.returned (.string ⟨#[51]⟩)∧Below w.heap.size w w':=by
 have H1:=hide' (fun w' k1 k2=>nText_3 a w' k1 k2)
 have H2':=fun w' k=>wSign_is false a 1 1 3 3 w' (Nat.le_refl _) (by omega) k (by decide)
 rw [show sgn 3=1 from rfl] at H2'
 have H2:=hide' H2'
 clear H2'
 have HD:=hide' h
 clear h
 have e1:(⟨#[45]⟩:ByteArray) ++ ⟨#[50]⟩=⟨#[45,50]⟩:=by decide +kernel
 go_enter Tryz.func123,Tryz.ntmps123
 go_wp2_with fail
 obtain ⟨W,hW⟩:∃ W,(w.alloc (.cells #[.bool false,.slice a 1 1] 25))=W:=⟨_,rfl⟩
 have q00:W.cell? ⟨w.heap.size,0,none⟩=some (.bool false):=by subst hW;go_simp
 have q01:W.cell? ⟨w.heap.size,1,none⟩=some (.slice a 1 1):=by subst hW;go_simp
 have hB:Below w.heap.size w W:=by subst hW;exact ((Below.refl _ _).alloc (by (try simp only [World.size_alloc]);omega) _)
 have hz:W.heap.size=w.heap.size+1:=by subst hW;simp only [World.size_alloc]
 rw [hW]
 clear hW
 have hBW:Below W.heap.size W W:=Below.refl _ _
 refine (H1.out _ (HD.out.below (hB.trans (hBW.mono hB.size))) (sb hS hB hBW)).mono ?_
 rintro e w41 ⟨rfl,b41⟩
 replace hBW:=hBW.trans (b41.mono hBW.size)
 replace q00:=below_cell b41 q00
 replace q01:=below_cell b41 q01
 go_wp2_with fail
 refine (H2.out _ (sb hS hB hBW)).mono ?_
 rintro e w42 ⟨rfl,b42⟩
 replace hBW:=hBW.trans (b42.mono hBW.size)
 replace q00:=below_cell b42 q00
 replace q01:=below_cell b42 q01
 go_wp2
 go_ret
 exact ⟨by first | rfl | simp only [e1],hB.trans (hBW.mono hB.size)⟩
set_option maxHeartbeats 1000000 in
set_option maxRecDepth 100000 in
theorem wText_m2 (a:Option Addr) (w:World) (h:Digits w) (hS:Seg w a 2 1):Calls Tryz.prog 123 #[.agg #[.bool true,.slice a 1 1]] w fun e w'=>e=.returned (.string ⟨#[45,50]⟩)∧Below w.heap.size w w':=by
 have H1:=hide' (fun w' k1 k2=>nText_2 a w' k1 k2)
 have H2':=fun w' k=>wSign_is true a 1 1 2 (-2) w' (Nat.le_refl _) (by omega) k (by decide)
 rw [show sgn (-2) = -1 from rfl] at H2'
 have H2:=hide' H2'
 clear H2'
 have HD:=hide' h
 clear h
 have e1:(⟨#[45]⟩:ByteArray) ++ ⟨#[50]⟩=⟨#[45,50]⟩:=by decide +kernel
 go_enter Tryz.func123,Tryz.ntmps123
 go_wp2_with fail
 obtain ⟨W,hW⟩:∃ W,(w.alloc (.cells #[.bool true,.slice a 1 1] 25))=W:=⟨_,rfl⟩
 have q00:W.cell? ⟨w.heap.size,0,none⟩=some (.bool true):=by subst hW;go_simp
 have q01:W.cell? ⟨w.heap.size,1,none⟩=some (.slice a 1 1):=by subst hW;go_simp
 have hB:Below w.heap.size w W:=by subst hW;exact ((Below.refl _ _).alloc (by (try simp only [World.size_alloc]);omega) _)
 have hz:W.heap.size=w.heap.size+1:=by subst hW;simp only [World.size_alloc]
 rw [hW]
 clear hW
 have hBW:Below W.heap.size W W:=Below.refl _ _
 refine (H1.out _ (HD.out.below (hB.trans (hBW.mono hB.size))) (sb hS hB hBW)).mono ?_
 rintro e w41 ⟨rfl,b41⟩
 replace hBW:=hBW.trans (b41.mono hBW.size)
 replace q00:=below_cell b41 q00
 replace q01:=below_cell b41 q01
 go_wp2_with fail
 refine (H2.out _ (sb hS hB hBW)).mono ?_
 rintro e w42 ⟨rfl,b42⟩
 replace hBW:=hBW.trans (b42.mono hBW.size)
 replace q00:=below_cell b42 q00
 replace q01:=below_cell b42 q01
 go_wp2
 go_ret
 exact ⟨by first | rfl | simp only [e1],hB.trans (hBW.mono hB.size)⟩
set_option maxHeartbeats 1000000 in
theorem isOne_1 (q:Option Addr) (w:World) (hS:Seg w q 1 1):Calls Tryz.prog 122 #[.slice q 1 1] w fun e w'=>e=.returned (.bool true)∧w'=w:=by
 obtain ⟨b,off,rfl,hb,hc⟩:=hS.2 (by omega)
 have h0:=hc 0 (by omega)
 rw [dg0,Nat.add_zero] at h0
 clear hc
 go_enter Tryz.func122,Tryz.ntmps122
 go_wp2
 go_ret
 exact ⟨rfl,rfl⟩
theorem lowN_3:Low (rn false 3 1) ((rd 1:Nat):Int) 3 1:=⟨by decide,by omega,by decide,by decide⟩
set_option maxHeartbeats 1000000 in
set_option maxRecDepth 100000 in
theorem qText_3 (p q:Option Addr) (w:World) (h:Digits w) (hS:Seg w p 3 1) (hT:Seg w q 1 1):Calls Tryz.prog 88 #[Value.agg #[Value.bool false,Value.slice p 1 1,Value.slice q 1 1]] w fun e w'=>e=.returned (.string ⟨#[51]⟩)∧Below w.heap.size w w':=by
 have P1:∀ w',Seg w' p 3 1→Seg w' q 1 1→Calls Tryz.prog 53 #[Value.agg #[Value.bool false,Value.slice p 1 1,Value.slice q 1 1]] w' fun e w''=>∃ p q,e=.returned (Value.agg #[Value.bool false,Value.slice p 1 1,Value.slice q 1 1])∧New w' w'' p 3 1∧New w' w'' q 1 1:=fun w' k1 k2=>by
  have:=qNorm_is false p 1 1 3 q 1 1 1 3 1 w' (Nat.le_refl _) (by omega) k1 (Nat.le_refl _) (by omega) k2 lowN_3
  rw [show ng 3=false from rfl,show am 3=3 from rfl,ln_1,ln_3] at this
  exact this
 have H1:=hide' P1
 clear P1
 have H2:=hide' (fun q w' k=>isOne_1 q w' k)
 have H3:=hide' (fun a w' k1 k2=>wText_3 a w' k1 k2)
 have HD:=hide' h
 clear h
 go_enter Tryz.func88,Tryz.ntmps88
 go_wp2_with fail
 obtain ⟨W,hW⟩:∃ W,(w.alloc (.cells #[.bool false,.slice p 1 1,.slice q 1 1] 27))=W:=⟨_,rfl⟩
 have q00:W.cell? ⟨w.heap.size,0,none⟩=some (.bool false):=by subst hW;go_simp
 have q01:W.cell? ⟨w.heap.size,1,none⟩=some (.slice p 1 1):=by subst hW;go_simp
 have q02:W.cell? ⟨w.heap.size,2,none⟩=some (.slice q 1 1):=by subst hW;go_simp
 have hB:Below w.heap.size w W:=by subst hW;exact ((Below.refl _ _).alloc (by (try simp only [World.size_alloc]);omega) _)
 have hz:W.heap.size=w.heap.size+1:=by subst hW;simp only [World.size_alloc]
 rw [hW]
 clear hW
 have hBW:Below W.heap.size W W:=Below.refl _ _
 refine (H1.out _ (sb hS hB hBW) (sb hT hB hBW)).mono ?_
 rintro e w41 ⟨p41,q41,rfl,hp41,hq41⟩
 have b41:=hp41.below
 replace hp41:=hp41.back hBW
 replace hq41:=hq41.back hBW
 replace hBW:=hBW.trans (b41.mono hBW.size)
 replace q00:=below_cell b41 q00
 replace q01:=below_cell b41 q01
 replace q02:=below_cell b41 q02
 have hsz41:=hBW.size
 have l4100:((w41.alloc (.cells #[.bool false,.slice p41 1 1,.slice q41 1 1] 27))).cell? ⟨w41.heap.size,0,none⟩=some (.bool false):=by go_simp
 have l4101:((w41.alloc (.cells #[.bool false,.slice p41 1 1,.slice q41 1 1] 27))).cell? ⟨w41.heap.size,1,none⟩=some (.slice p41 1 1):=by go_simp
 have l4102:((w41.alloc (.cells #[.bool false,.slice p41 1 1,.slice q41 1 1] 27))).cell? ⟨w41.heap.size,2,none⟩=some (.slice q41 1 1):=by go_simp
 have cb41:Below w41.heap.size w41 ((w41.alloc (.cells #[.bool false,.slice p41 1 1,.slice q41 1 1] 27))):=((Below.refl _ _).alloc (by (try simp only [World.size_alloc]);omega) _)
 replace hBW:=hBW.trans (cb41.mono hBW.size)
 replace q00:=below_cell cb41 q00
 replace q01:=below_cell cb41 q01
 replace q02:=below_cell cb41 q02
 replace hp41:=hp41.later cb41
 replace hq41:=hq41.later cb41
 have hL410:Row ((w41.alloc (.cells #[.bool false,.slice p41 1 1,.slice q41 1 1] 27))) (w41.heap.size):=by
  have:=row_new (w41) #[.bool false,.slice p41 1 1,.slice q41 1 1] 27
  try simp only [World.size_alloc] at this
  exact this
 go_wp2_with fail
 generalize (w41.alloc (.cells #[.bool false,.slice p41 1 1,.slice q41 1 1] 27))=w41x at q00 q01 q02 l4100 l4101 l4102 hL410 hp41 hq41 hBW cb41 ⊢
 clear cb41
 refine (H2.out _ _ hq41.seg).mono ?_
 rintro e w42 ⟨rfl,rfl⟩
 go_wp2_with fail
 refine (H3.out _ _ (HD.out.below (hB.trans (hBW.mono hB.size))) hp41.seg).mono ?_
 rintro e w43 ⟨rfl,b43⟩
 replace hBW:=hBW.trans (b43.mono hBW.size)
 replace q00:=below_cell b43 q00
 replace q01:=below_cell b43 q01
 replace q02:=below_cell b43 q02
 replace l4100:=below_cell b43 l4100
 replace l4101:=below_cell b43 l4101
 replace l4102:=below_cell b43 l4102
 replace hL410:=below_row b43 hL410
 replace hp41:=hp41.later b43
 replace hq41:=hq41.later b43
 go_wp2
 go_ret
 exact ⟨rfl,hB.trans (hBW.mono hB.size)⟩
theorem lowN_m2:Low (rn true 2 1) ((rd 1:Nat):Int) (-2) 1:=⟨by decide,by omega,by decide,by decide⟩
set_option maxHeartbeats 1000000 in
set_option maxRecDepth 100000 in
theorem qText_m2 (p q:Option Addr) (w:World) (h:Digits w) (hS:Seg w p 2 1) (hT:Seg w q 1 1):Calls Tryz.prog 88 #[Value.agg #[Value.bool true,Value.slice p 1 1,Value.slice q 1 1]] w fun e w'=>e=.returned (.string ⟨#[45,50]⟩)∧Below w.heap.size w w':=by
 have P1:∀ w',Seg w' p 2 1→Seg w' q 1 1→Calls Tryz.prog 53 #[Value.agg #[Value.bool true,Value.slice p 1 1,Value.slice q 1 1]] w' fun e w''=>∃ p q,e=.returned (Value.agg #[Value.bool true,Value.slice p 1 1,Value.slice q 1 1])∧New w' w'' p 2 1∧New w' w'' q 1 1:=fun w' k1 k2=>by
  have:=qNorm_is true p 1 1 2 q 1 1 1 (-2) 1 w' (Nat.le_refl _) (by omega) k1 (Nat.le_refl _) (by omega) k2 lowN_m2
  rw [show ng (-2)=true from rfl,show am (-2)=2 from rfl,ln_1,ln_2] at this
  exact this
 have H1:=hide' P1
 clear P1
 have H2:=hide' (fun q w' k=>isOne_1 q w' k)
 have H3:=hide' (fun a w' k1 k2=>wText_m2 a w' k1 k2)
 have HD:=hide' h
 clear h
 go_enter Tryz.func88,Tryz.ntmps88
 go_wp2_with fail
 obtain ⟨W,hW⟩:∃ W,(w.alloc (.cells #[.bool true,.slice p 1 1,.slice q 1 1] 27))=W:=⟨_,rfl⟩
 have q00:W.cell? ⟨w.heap.size,0,none⟩=some (.bool true):=by subst hW;go_simp
 have q01:W.cell? ⟨w.heap.size,1,none⟩=some (.slice p 1 1):=by subst hW;go_simp
 have q02:W.cell? ⟨w.heap.size,2,none⟩=some (.slice q 1 1):=by subst hW;go_simp
 have hB:Below w.heap.size w W:=by subst hW;exact ((Below.refl _ _).alloc (by (try simp only [World.size_alloc]);omega) _)
 have hz:W.heap.size=w.heap.size+1:=by subst hW;simp only [World.size_alloc]
 rw [hW]
 clear hW
 have hBW:Below W.heap.size W W:=Below.refl _ _
 refine (H1.out _ (sb hS hB hBW) (sb hT hB hBW)).mono ?_
 rintro e w41 ⟨p41,q41,rfl,hp41,hq41⟩
 have b41:=hp41.below
 replace hp41:=hp41.back hBW
 replace hq41:=hq41.back hBW
 replace hBW:=hBW.trans (b41.mono hBW.size)
 replace q00:=below_cell b41 q00
 replace q01:=below_cell b41 q01
 replace q02:=below_cell b41 q02
 have hsz41:=hBW.size
 have l4100:((w41.alloc (.cells #[.bool true,.slice p41 1 1,.slice q41 1 1] 27))).cell? ⟨w41.heap.size,0,none⟩=some (.bool true):=by go_simp
 have l4101:((w41.alloc (.cells #[.bool true,.slice p41 1 1,.slice q41 1 1] 27))).cell? ⟨w41.heap.size,1,none⟩=some (.slice p41 1 1):=by go_simp
 have l4102:((w41.alloc (.cells #[.bool true,.slice p41 1 1,.slice q41 1 1] 27))).cell? ⟨w41.heap.size,2,none⟩=some (.slice q41 1 1):=by go_simp
 have cb41:Below w41.heap.size w41 ((w41.alloc (.cells #[.bool true,.slice p41 1 1,.slice q41 1 1] 27))):=((Below.refl _ _).alloc (by (try simp only [World.size_alloc]);omega) _)
 replace hBW:=hBW.trans (cb41.mono hBW.size)
 replace q00:=below_cell cb41 q00
 replace q01:=below_cell cb41 q01
 replace q02:=below_cell cb41 q02
 replace hp41:=hp41.later cb41
 replace hq41:=hq41.later cb41
 have hL410:Row ((w41.alloc (.cells #[.bool true,.slice p41 1 1,.slice q41 1 1] 27))) (w41.heap.size):=by
  have:=row_new (w41) #[.bool true,.slice p41 1 1,.slice q41 1 1] 27
  try simp only [World.size_alloc] at this
  exact this
 go_wp2_with fail
 generalize (w41.alloc (.cells #[.bool true,.slice p41 1 1,.slice q41 1 1] 27))=w41x at q00 q01 q02 l4100 l4101 l4102 hL410 hp41 hq41 hBW cb41 ⊢
 clear cb41
 refine (H2.out _ _ hq41.seg).mono ?_
 rintro e w42 ⟨rfl,rfl⟩
 go_wp2_with fail
 refine (H3.out _ _ (HD.out.below (hB.trans (hBW.mono hB.size))) hp41.seg).mono ?_
 rintro e w43 ⟨rfl,b43⟩
 replace hBW:=hBW.trans (b43.mono hBW.size)
 replace q00:=below_cell b43 q00
 replace q01:=below_cell b43 q01
 replace q02:=below_cell b43 q02
 replace l4100:=below_cell b43 l4100
 replace l4101:=below_cell b43 l4101
 replace l4102:=below_cell b43 l4102
 replace hL410:=below_row b43 hL410
 replace hp41:=hp41.later b43
 replace hq41:=hq41.later b43
 go_wp2
 go_ret
 exact ⟨rfl,hB.trans (hBW.mono hB.size)⟩
set_option maxHeartbeats 2000000 in
set_option maxRecDepth 100000 in
theorem dText_v (p q r t:Option Addr) (w:World) (h:Digits w) (hS:Seg w p 3 1) (hT:Seg w q 1 1) (hU:Seg w r 2 1) (hV:Seg w t 1 1):Calls Tryz.prog 60 #[Value.agg #[Value.bool false,Value.slice p 1 1,Value.slice q 1 1,Value.bool true,Value.slice r 1 1,Value.slice t 1 1]] w fun e w'=>e=.returned (.string ⟨#[51,45,50,100]⟩)∧Below w.heap.size w w':=by
 have H1:=hide' (fun w' k1 k2 k3=>qText_3 p q w' k1 k2 k3)
 have H2:=hide' (fun w' k1 k2=>qSign_is true r 1 1 2 t 1 1 1 (-1) w' (Nat.le_refl _) (by omega) k1 (Nat.le_refl _) (by omega) k2 (by decide))
 have H3:=hide' (fun w' k1 k2 k3=>qText_m2 r t w' k1 k2 k3)
 have HD:=hide' h
 clear h
 have e1:(⟨#[45,50]⟩:ByteArray) ++ ⟨#[100]⟩=⟨#[45,50,100]⟩:=by decide +kernel
 have e2:(⟨#[51]⟩:ByteArray) ++ ⟨#[45,50,100]⟩=⟨#[51,45,50,100]⟩:=by decide +kernel
 go_enter Tryz.func60,Tryz.ntmps60
 go_wp2_with fail
 obtain ⟨W,hW⟩:∃ W,(w.alloc (.cells #[.bool false,.slice p 1 1,.slice q 1 1,.bool true,.slice r 1 1,.slice t 1 1] 29))=W:=⟨_,rfl⟩
 have q00:W.cell? ⟨w.heap.size,0,none⟩=some (.bool false):=by subst hW;go_simp
 have q01:W.cell? ⟨w.heap.size,1,none⟩=some (.slice p 1 1):=by subst hW;go_simp
 have q02:W.cell? ⟨w.heap.size,2,none⟩=some (.slice q 1 1):=by subst hW;go_simp
 have q03:W.cell? ⟨w.heap.size,3,none⟩=some (.bool true):=by subst hW;go_simp
 have q04:W.cell? ⟨w.heap.size,4,none⟩=some (.slice r 1 1):=by subst hW;go_simp
 have q05:W.cell? ⟨w.heap.size,5,none⟩=some (.slice t 1 1):=by subst hW;go_simp
 have hB:Below w.heap.size w W:=by subst hW;exact ((Below.refl _ _).alloc (by (try simp only [World.size_alloc]);omega) _)
 have hz:W.heap.size=w.heap.size+1:=by subst hW;simp only [World.size_alloc]
 rw [hW]
 clear hW
 have hBW:Below W.heap.size W W:=Below.refl _ _
 refine (H1.out _ (HD.out.below (hB.trans (hBW.mono hB.size))) (sb hS hB hBW) (sb hT hB hBW)).mono ?_
 rintro e w41 ⟨rfl,b41⟩
 replace hBW:=hBW.trans (b41.mono hBW.size)
 replace q00:=below_cell b41 q00
 replace q01:=below_cell b41 q01
 replace q02:=below_cell b41 q02
 replace q03:=below_cell b41 q03
 replace q04:=below_cell b41 q04
 replace q05:=below_cell b41 q05
 go_wp2_with fail
 refine (H2.out _ (sb hU hB hBW) (sb hV hB hBW)).mono ?_
 rintro e w42 ⟨rfl,b42⟩
 replace hBW:=hBW.trans (b42.mono hBW.size)
 replace q00:=below_cell b42 q00
 replace q01:=below_cell b42 q01
 replace q02:=below_cell b42 q02
 replace q03:=below_cell b42 q03
 replace q04:=below_cell b42 q04
 replace q05:=below_cell b42 q05
 go_wp2_with fail
 refine (H3.out _ (HD.out.below (hB.trans (hBW.mono hB.size))) (sb hU hB hBW) (sb hV hB hBW)).mono ?_
 rintro e w43 ⟨rfl,b43⟩
 replace hBW:=hBW.trans (b43.mono hBW.size)
 replace q00:=below_cell b43 q00
 replace q01:=below_cell b43 q01
 replace q02:=below_cell b43 q02
 replace q03:=below_cell b43 q03
 replace q04:=below_cell b43 q04
 replace q05:=below_cell b43 q05
 go_wp2
 go_ret
 exact ⟨by first | rfl | simp only [e1,e2],hB.trans (hBW.mono hB.size)⟩
set_option maxHeartbeats 4000000 in
set_option maxRecDepth 100000 in
theorem dParse_v (w:World) (h:Digits w):Calls Tryz.prog 32 #[.string ⟨#[51,45,50,100]⟩] w fun e w'=>∃ p q r t,e=.returned (.tuple #[Value.agg #[Value.bool false,Value.slice p 1 1,Value.slice q 1 1,Value.bool true,Value.slice r 1 1,Value.slice t 1 1],.int .i64 0])∧New w w' p 3 1∧New w w' q 1 1∧New w w' r 2 1∧New w w' t 1 1:=by
 have H0:=hide' dcut_v
 have H1:=hide' qParse_v3
 have H2:=hide' qParse_vm2
 have H3:=hide' (fun p q r t w' k1 k2 k3 k4 k5=>dText_v p q r t w' k1 k2 k3 k4 k5)
 have HD:=hide' h
 clear h
 have hne:((⟨#[51,45,50,100]⟩:ByteArray) != ⟨#[51,45,50,100]⟩)=false:=by decide
 have hne2:((⟨#[51,45,50,100]⟩:ByteArray).toList != (⟨#[51,45,50,100]⟩:ByteArray).toList)=false:=by simp
 go_enter Tryz.func32,Tryz.ntmps32
 go_wp2_with fail
 obtain ⟨W,hW⟩:∃ W,(w.alloc (.cells #[.bool false,.slice none 0 0,.slice none 0 0,.bool false,.slice none 0 0,.slice none 0 0] 29))=W:=⟨_,rfl⟩
 have r00:W.cell? ⟨w.heap.size,0,none⟩=some (.bool false):=by subst hW;go_simp
 have r01:W.cell? ⟨w.heap.size,1,none⟩=some (.slice none 0 0):=by subst hW;go_simp
 have r02:W.cell? ⟨w.heap.size,2,none⟩=some (.slice none 0 0):=by subst hW;go_simp
 have r03:W.cell? ⟨w.heap.size,3,none⟩=some (.bool false):=by subst hW;go_simp
 have r04:W.cell? ⟨w.heap.size,4,none⟩=some (.slice none 0 0):=by subst hW;go_simp
 have r05:W.cell? ⟨w.heap.size,5,none⟩=some (.slice none 0 0):=by subst hW;go_simp
 have hB:Below w.heap.size w W:=by subst hW;exact ((Below.refl _ _).alloc (by (try simp only [World.size_alloc]);omega) _)
 have hR0:Row W (w.heap.size):=by
  have:=row_new (w) #[.bool false,.slice none 0 0,.slice none 0 0,.bool false,.slice none 0 0,.slice none 0 0] 29
  try simp only [World.size_alloc] at this
  subst hW;exact this
 have hz:W.heap.size=w.heap.size+1:=by subst hW;simp only [World.size_alloc]
 rw [hW]
 clear hW
 have hBW:Below W.heap.size W W:=Below.refl _ _
 refine (H0.out _).mono ?_
 rintro e w41 ⟨rfl,dd41⟩
 have b41:=dd41.below W.heap.size
 replace hBW:=hBW.trans (b41.mono hBW.size)
 replace r00:=below_cell b41 r00
 replace r01:=below_cell b41 r01
 replace r02:=below_cell b41 r02
 replace r03:=below_cell b41 r03
 replace r04:=below_cell b41 r04
 replace r05:=below_cell b41 r05
 replace hR0:=below_row b41 hR0
 go_wp2_with fail
 refine (H1.out _ (HD.out.below (hB.trans (hBW.mono hB.size)))).mono ?_
 rintro e w42 ⟨p42,q42,rfl,hp42,hq42⟩
 have b42:=hp42.below
 replace hp42:=hp42.back hBW
 replace hq42:=hq42.back hBW
 replace hBW:=hBW.trans (b42.mono hBW.size)
 replace r00:=below_cell b42 r00
 replace r01:=below_cell b42 r01
 replace r02:=below_cell b42 r02
 replace r03:=below_cell b42 r03
 replace r04:=below_cell b42 r04
 replace r05:=below_cell b42 r05
 replace hR0:=below_row b42 hR0
 have hsz42:=hBW.size
 have hlt42hR0:=hR0.lt
 have l4200:((w42.alloc (.cells #[.bool false,.slice p42 1 1,.slice q42 1 1] 27))).cell? ⟨w42.heap.size,0,none⟩=some (.bool false):=by go_simp
 have l4201:((w42.alloc (.cells #[.bool false,.slice p42 1 1,.slice q42 1 1] 27))).cell? ⟨w42.heap.size,1,none⟩=some (.slice p42 1 1):=by go_simp
 have l4202:((w42.alloc (.cells #[.bool false,.slice p42 1 1,.slice q42 1 1] 27))).cell? ⟨w42.heap.size,2,none⟩=some (.slice q42 1 1):=by go_simp
 have cb42:Below w42.heap.size w42 ((w42.alloc (.cells #[.bool false,.slice p42 1 1,.slice q42 1 1] 27))):=((Below.refl _ _).alloc (by (try simp only [World.size_alloc]);omega) _)
 replace hBW:=hBW.trans (cb42.mono hBW.size)
 replace r00:=below_cell cb42 r00
 replace r01:=below_cell cb42 r01
 replace r02:=below_cell cb42 r02
 replace r03:=below_cell cb42 r03
 replace r04:=below_cell cb42 r04
 replace r05:=below_cell cb42 r05
 replace hR0:=below_row cb42 hR0
 replace hp42:=hp42.later cb42
 replace hq42:=hq42.later cb42
 have hL420:Row ((w42.alloc (.cells #[.bool false,.slice p42 1 1,.slice q42 1 1] 27))) (w42.heap.size):=by
  have:=row_new (w42) #[.bool false,.slice p42 1 1,.slice q42 1 1] 27
  try simp only [World.size_alloc] at this
  exact this
 go_wp2_with fail
 generalize (w42.alloc (.cells #[.bool false,.slice p42 1 1,.slice q42 1 1] 27))=w42x at r00 r01 r02 r03 r04 r05 l4200 l4201 l4202 hR0 hL420 hp42 hq42 hBW cb42 ⊢
 clear cb42
 refine (H2.out _ (HD.out.below (hB.trans (hBW.mono hB.size)))).mono ?_
 rintro e w43 ⟨p43,q43,rfl,hp43,hq43⟩
 have b43:=hp43.below
 replace hp43:=hp43.back hBW
 replace hq43:=hq43.back hBW
 replace hBW:=hBW.trans (b43.mono hBW.size)
 replace r00:=below_cell b43 r00
 replace r01:=below_cell b43 r01
 replace r02:=below_cell b43 r02
 replace r03:=below_cell b43 r03
 replace r04:=below_cell b43 r04
 replace r05:=below_cell b43 r05
 replace l4200:=below_cell b43 l4200
 replace l4201:=below_cell b43 l4201
 replace l4202:=below_cell b43 l4202
 replace hR0:=below_row b43 hR0
 replace hL420:=below_row b43 hL420
 replace hp42:=hp42.later b43
 replace hq42:=hq42.later b43
 have j0:=below_cell (below_alloc (w:=w43) (.cells #[.bool true,.slice p43 1 1,.slice q43 1 1] 27)) l4200
 have j1:=below_cell (below_alloc (w:=w43) (.cells #[.bool true,.slice p43 1 1,.slice q43 1 1] 27)) l4201
 have j2:=below_cell (below_alloc (w:=w43) (.cells #[.bool true,.slice p43 1 1,.slice q43 1 1] 27)) l4202
 have hsz43:=hBW.size
 have hlt43hR0:=hR0.lt
 have hlt43hL420:=hL420.lt
 have l4300:(((w43.alloc (.cells #[.bool true,.slice p43 1 1,.slice q43 1 1] 27)).alloc (.cells #[.bool false,.slice p42 1 1,.slice q42 1 1,.bool true,.slice p43 1 1,.slice q43 1 1] 29))).cell? ⟨w43.heap.size,0,none⟩=some (.bool true):=by go_simp
 have l4301:(((w43.alloc (.cells #[.bool true,.slice p43 1 1,.slice q43 1 1] 27)).alloc (.cells #[.bool false,.slice p42 1 1,.slice q42 1 1,.bool true,.slice p43 1 1,.slice q43 1 1] 29))).cell? ⟨w43.heap.size,1,none⟩=some (.slice p43 1 1):=by go_simp
 have l4302:(((w43.alloc (.cells #[.bool true,.slice p43 1 1,.slice q43 1 1] 27)).alloc (.cells #[.bool false,.slice p42 1 1,.slice q42 1 1,.bool true,.slice p43 1 1,.slice q43 1 1] 29))).cell? ⟨w43.heap.size,2,none⟩=some (.slice q43 1 1):=by go_simp
 have l4310:(((w43.alloc (.cells #[.bool true,.slice p43 1 1,.slice q43 1 1] 27)).alloc (.cells #[.bool false,.slice p42 1 1,.slice q42 1 1,.bool true,.slice p43 1 1,.slice q43 1 1] 29))).cell? ⟨w43.heap.size+1,0,none⟩=some (.bool false):=by go_simp
 have l4311:(((w43.alloc (.cells #[.bool true,.slice p43 1 1,.slice q43 1 1] 27)).alloc (.cells #[.bool false,.slice p42 1 1,.slice q42 1 1,.bool true,.slice p43 1 1,.slice q43 1 1] 29))).cell? ⟨w43.heap.size+1,1,none⟩=some (.slice p42 1 1):=by go_simp
 have l4312:(((w43.alloc (.cells #[.bool true,.slice p43 1 1,.slice q43 1 1] 27)).alloc (.cells #[.bool false,.slice p42 1 1,.slice q42 1 1,.bool true,.slice p43 1 1,.slice q43 1 1] 29))).cell? ⟨w43.heap.size+1,2,none⟩=some (.slice q42 1 1):=by go_simp
 have l4313:(((w43.alloc (.cells #[.bool true,.slice p43 1 1,.slice q43 1 1] 27)).alloc (.cells #[.bool false,.slice p42 1 1,.slice q42 1 1,.bool true,.slice p43 1 1,.slice q43 1 1] 29))).cell? ⟨w43.heap.size+1,3,none⟩=some (.bool true):=by go_simp
 have l4314:(((w43.alloc (.cells #[.bool true,.slice p43 1 1,.slice q43 1 1] 27)).alloc (.cells #[.bool false,.slice p42 1 1,.slice q42 1 1,.bool true,.slice p43 1 1,.slice q43 1 1] 29))).cell? ⟨w43.heap.size+1,4,none⟩=some (.slice p43 1 1):=by go_simp
 have l4315:(((w43.alloc (.cells #[.bool true,.slice p43 1 1,.slice q43 1 1] 27)).alloc (.cells #[.bool false,.slice p42 1 1,.slice q42 1 1,.bool true,.slice p43 1 1,.slice q43 1 1] 29))).cell? ⟨w43.heap.size+1,5,none⟩=some (.slice q43 1 1):=by go_simp
 have cb43:Below w43.heap.size w43 (((w43.alloc (.cells #[.bool true,.slice p43 1 1,.slice q43 1 1] 27)).alloc (.cells #[.bool false,.slice p42 1 1,.slice q42 1 1,.bool true,.slice p43 1 1,.slice q43 1 1] 29))):=(((Below.refl _ _).alloc (by (try simp only [World.size_alloc]);omega) _).alloc (by (try simp only [World.size_alloc]);omega) _)
 replace hBW:=hBW.trans (cb43.mono hBW.size)
 replace r00:=below_cell cb43 r00
 replace r01:=below_cell cb43 r01
 replace r02:=below_cell cb43 r02
 replace r03:=below_cell cb43 r03
 replace r04:=below_cell cb43 r04
 replace r05:=below_cell cb43 r05
 replace l4200:=below_cell cb43 l4200
 replace l4201:=below_cell cb43 l4201
 replace l4202:=below_cell cb43 l4202
 replace hR0:=below_row cb43 hR0
 replace hL420:=below_row cb43 hL420
 replace hp42:=hp42.later cb43
 replace hq42:=hq42.later cb43
 replace hp43:=hp43.later cb43
 replace hq43:=hq43.later cb43
 have hL430:Row (((w43.alloc (.cells #[.bool true,.slice p43 1 1,.slice q43 1 1] 27)).alloc (.cells #[.bool false,.slice p42 1 1,.slice q42 1 1,.bool true,.slice p43 1 1,.slice q43 1 1] 29))) (w43.heap.size):=by
  have:=row_new (w43) #[.bool true,.slice p43 1 1,.slice q43 1 1] 27
  try simp only [World.size_alloc] at this
  exact (this.alloc _)
 have hL431:Row (((w43.alloc (.cells #[.bool true,.slice p43 1 1,.slice q43 1 1] 27)).alloc (.cells #[.bool false,.slice p42 1 1,.slice q42 1 1,.bool true,.slice p43 1 1,.slice q43 1 1] 29))) (w43.heap.size+1):=by
  have:=row_new ((w43.alloc (.cells #[.bool true,.slice p43 1 1,.slice q43 1 1] 27))) #[.bool false,.slice p42 1 1,.slice q42 1 1,.bool true,.slice p43 1 1,.slice q43 1 1] 29
  try simp only [World.size_alloc] at this
  exact this
 go_wp2_with fail
 generalize ((w43.alloc (.cells #[.bool true,.slice p43 1 1,.slice q43 1 1] 27)).alloc (.cells #[.bool false,.slice p42 1 1,.slice q42 1 1,.bool true,.slice p43 1 1,.slice q43 1 1] 29))=w43x at r00 r01 r02 r03 r04 r05 l4200 l4201 l4202 l4300 l4301 l4302 l4310 l4311 l4312 l4313 l4314 l4315 hR0 hL420 hL430 hL431 hp42 hq42 hp43 hq43 hBW cb43 ⊢
 clear cb43
 clear j0 j1 j2
 refine (H3.out _ _ _ _ _ (HD.out.below (hB.trans (hBW.mono hB.size))) hp42.seg hq42.seg hp43.seg hq43.seg).mono ?_
 rintro e w44 ⟨rfl,b44⟩
 replace hBW:=hBW.trans (b44.mono hBW.size)
 replace r00:=below_cell b44 r00
 replace r01:=below_cell b44 r01
 replace r02:=below_cell b44 r02
 replace r03:=below_cell b44 r03
 replace r04:=below_cell b44 r04
 replace r05:=below_cell b44 r05
 replace l4200:=below_cell b44 l4200
 replace l4201:=below_cell b44 l4201
 replace l4202:=below_cell b44 l4202
 replace l4300:=below_cell b44 l4300
 replace l4301:=below_cell b44 l4301
 replace l4302:=below_cell b44 l4302
 replace l4310:=below_cell b44 l4310
 replace l4311:=below_cell b44 l4311
 replace l4312:=below_cell b44 l4312
 replace l4313:=below_cell b44 l4313
 replace l4314:=below_cell b44 l4314
 replace l4315:=below_cell b44 l4315
 replace hR0:=below_row b44 hR0
 replace hL420:=below_row b44 hL420
 replace hL430:=below_row b44 hL430
 replace hL431:=below_row b44 hL431
 replace hp42:=hp42.later b44
 replace hq42:=hq42.later b44
 replace hp43:=hp43.later b44
 replace hq43:=hq43.later b44
 have fz0:=fun o=>hR0.frozen o
 go_wp2
 all_goals refine bodyPost_ret (v:=.tuple #[Value.agg #[Value.bool false,Value.slice p42 1 1,Value.slice q42 1 1,Value.bool true,Value.slice p43 1 1,Value.slice q43 1 1],.int .i64 0]) (by rw [results_ct rfl];go_simp) rfl ?_
 all_goals exact ⟨p42,q42,p43,q43,rfl,hp42.mid hB ((((((((Mid.refl _ _ _).set _ _ (by omega) (by omega) _).set _ _ (by omega) (by omega) _).set _ _ (by omega) (by omega) _).set _ _ (by omega) (by omega) _).set _ _ (by omega) (by omega) _).set _ _ (by omega) (by omega) _)),hq42.mid hB ((((((((Mid.refl _ _ _).set _ _ (by omega) (by omega) _).set _ _ (by omega) (by omega) _).set _ _ (by omega) (by omega) _).set _ _ (by omega) (by omega) _).set _ _ (by omega) (by omega) _).set _ _ (by omega) (by omega) _)),hp43.mid hB ((((((((Mid.refl _ _ _).set _ _ (by omega) (by omega) _).set _ _ (by omega) (by omega) _).set _ _ (by omega) (by omega) _).set _ _ (by omega) (by omega) _).set _ _ (by omega) (by omega) _).set _ _ (by omega) (by omega) _)),hq43.mid hB ((((((((Mid.refl _ _ _).set _ _ (by omega) (by omega) _).set _ _ (by omega) (by omega) _).set _ _ (by omega) (by omega) _).set _ _ (by omega) (by omega) _).set _ _ (by omega) (by omega) _).set _ _ (by omega) (by omega) _))⟩
set_option maxHeartbeats 4000000 in
set_option maxRecDepth 100000 in
theorem lives_is (w:World) (h:Digits w):Calls Tryz.prog 8 #[] w fun e w'=>e=.returned (.bool true)∧Below w.heap.size w w':=by
 have P3:∀ w',Calls Tryz.prog 33 #[.int .i64 3] w' fun e w''=>∃ p q,e=.returned (Value.agg #[Value.bool false,Value.slice p 1 1,Value.slice q 1 1])∧New w' w'' p 3 1∧New w' w'' q 1 1:=fun w'=>by
  have:=vqWhole_is 3 w' (by omega) (by omega)
  rw [show ng 3=false from rfl,show am 3=3 from rfl,ln_3,ln_1] at this
  exact this
 have P2:∀ w',Calls Tryz.prog 33 #[.int .i64 (-2)] w' fun e w''=>∃ p q,e=.returned (Value.agg #[Value.bool true,Value.slice p 1 1,Value.slice q 1 1])∧New w' w'' p 2 1∧New w' w'' q 1 1:=fun w'=>by
  have:=vqWhole_is (-2) w' (by omega) (by omega)
  rw [show ng (-2)=true from rfl,show am (-2)=2 from rfl,ln_2,ln_1] at this
  exact this
 have P4:∀ p q r t p2 q2 r2 t2 w',Seg w' p 3 1→Seg w' q 1 1→Seg w' r 2 1→Seg w' t 1 1→Seg w' p2 3 1→Seg w' q2 1 1→Seg w' r2 2 1→Seg w' t2 1 1→Calls Tryz.prog 9 #[Value.agg #[Value.bool false,Value.slice p 1 1,Value.slice q 1 1,Value.bool true,Value.slice r 1 1,Value.slice t 1 1],Value.agg #[Value.bool false,Value.slice p2 1 1,Value.slice q2 1 1,Value.bool true,Value.slice r2 1 1,Value.slice t2 1 1]] w' fun e w''=>e=.returned (.bool true)∧Below w'.heap.size w' w'':=fun p q r t p2 q2 r2 t2 w' k1 k2 k3 k4 k5 k6 k7 k8=>by
  have:=dsame_is 3 1 (-2) 1 p q r t p2 q2 r2 t2 w'
  rw [show ng 3=false from rfl,show am 3=3 from rfl,show ng (-2)=true from rfl,show am (-2)=2 from rfl,ln_3,ln_2,ln_1] at this
  exact this (by omega) (by omega) (by omega) (by omega) k1 k2 k3 k4 k5 k6 k7 k8
 have H0:=hide' (dParse_v w h)
 have H1:=hide' P3
 have H2:=hide' P2
 have H3:=hide' P4
 clear P2 P3 P4 h
 go_enter Tryz.func8,Tryz.ntmps8
 go_wp2_with fail
 refine H0.out.mono ?_
 rintro e w40 ⟨p40,q40,r40,t40,rfl,hp40,hq40,hr40,ht40⟩
 have hB:=hp40.below
 have hBW:Below w40.heap.size w40 w40:=Below.refl _ _
 have kp:=hp40.seg
 clear hp40
 have kq:=hq40.seg
 clear hq40
 have kr:=hr40.seg
 clear hr40
 have kt:=ht40.seg
 clear ht40
 have hsz40:=hBW.size
 have l4000:((w40.alloc (.cells #[.bool false,.slice p40 1 1,.slice q40 1 1,.bool true,.slice r40 1 1,.slice t40 1 1] 29))).cell? ⟨w40.heap.size,0,none⟩=some (.bool false):=by go_simp
 have l4001:((w40.alloc (.cells #[.bool false,.slice p40 1 1,.slice q40 1 1,.bool true,.slice r40 1 1,.slice t40 1 1] 29))).cell? ⟨w40.heap.size,1,none⟩=some (.slice p40 1 1):=by go_simp
 have l4002:((w40.alloc (.cells #[.bool false,.slice p40 1 1,.slice q40 1 1,.bool true,.slice r40 1 1,.slice t40 1 1] 29))).cell? ⟨w40.heap.size,2,none⟩=some (.slice q40 1 1):=by go_simp
 have l4003:((w40.alloc (.cells #[.bool false,.slice p40 1 1,.slice q40 1 1,.bool true,.slice r40 1 1,.slice t40 1 1] 29))).cell? ⟨w40.heap.size,3,none⟩=some (.bool true):=by go_simp
 have l4004:((w40.alloc (.cells #[.bool false,.slice p40 1 1,.slice q40 1 1,.bool true,.slice r40 1 1,.slice t40 1 1] 29))).cell? ⟨w40.heap.size,4,none⟩=some (.slice r40 1 1):=by go_simp
 have l4005:((w40.alloc (.cells #[.bool false,.slice p40 1 1,.slice q40 1 1,.bool true,.slice r40 1 1,.slice t40 1 1] 29))).cell? ⟨w40.heap.size,5,none⟩=some (.slice t40 1 1):=by go_simp
 have cb40:Below w40.heap.size w40 ((w40.alloc (.cells #[.bool false,.slice p40 1 1,.slice q40 1 1,.bool true,.slice r40 1 1,.slice t40 1 1] 29))):=((Below.refl _ _).alloc (by (try simp only [World.size_alloc]);omega) _)
 replace hBW:=hBW.trans (cb40.mono hBW.size)
 replace kp:=kp.later cb40
 replace kq:=kq.later cb40
 replace kr:=kr.later cb40
 replace kt:=kt.later cb40
 have hL400:Row ((w40.alloc (.cells #[.bool false,.slice p40 1 1,.slice q40 1 1,.bool true,.slice r40 1 1,.slice t40 1 1] 29))) (w40.heap.size):=by
  have:=row_new (w40) #[.bool false,.slice p40 1 1,.slice q40 1 1,.bool true,.slice r40 1 1,.slice t40 1 1] 29
  try simp only [World.size_alloc] at this
  exact this
 go_wp2_with fail
 generalize (w40.alloc (.cells #[.bool false,.slice p40 1 1,.slice q40 1 1,.bool true,.slice r40 1 1,.slice t40 1 1] 29))=w40x at l4000 l4001 l4002 l4003 l4004 l4005 hL400 kp kq kr kt hBW cb40 ⊢
 clear cb40
 replace hBW:=hBW.drew
 replace kp:=kp.drew
 replace kq:=kq.drew
 replace kr:=kr.drew
 replace kt:=kt.drew
 first
  | go_region_held3 (fun w'=>w'.cell? ⟨w40.heap.size,0,none⟩=some (.bool false)∧w'.cell? ⟨w40.heap.size,1,none⟩=some (.slice p40 1 1)∧w'.cell? ⟨w40.heap.size,2,none⟩=some (.slice q40 1 1)∧w'.cell? ⟨w40.heap.size,3,none⟩=some (.bool true)∧w'.cell? ⟨w40.heap.size,4,none⟩=some (.slice r40 1 1)∧w'.cell? ⟨w40.heap.size,5,none⟩=some (.slice t40 1 1)∧Below w.heap.size w w')
    (first | exact ⟨l4000,l4001,l4002,l4003,l4004,l4005,hB.trans (hBW.mono hB.size)⟩ | exact kp6 b41 (by assumption) | exact kp6 b42 (by assumption) | exact kp6 b43 (by assumption) | exact kp6 (below_alloc _) (by assumption))
    (first
     | (go_at_call 33;(fail_if_success clear b41);refine (H1.out _).mono ?_;rintro e w41 ⟨p41,q41,rfl,hp41,hq41⟩;have b41:=hp41.below;replace hp41:=hp41.back hBW;replace hq41:=hq41.back hBW;replace hBW:=hBW.trans (b41.mono hBW.size);replace l4000:=below_cell b41 l4000;replace l4001:=below_cell b41 l4001;replace l4002:=below_cell b41 l4002;replace l4003:=below_cell b41 l4003;replace l4004:=below_cell b41 l4004;replace l4005:=below_cell b41 l4005;replace hL400:=below_row b41 hL400;replace kp:=kp.later b41;replace kq:=kq.later b41;replace kr:=kr.later b41;replace kt:=kt.later b41)
     | (go_at_call 33;(fail_if_success clear b42);refine (H2.out _).mono ?_;rintro e w42 ⟨p42,q42,rfl,hp42,hq42⟩;have b42:=hp42.below;replace hp42:=hp42.back hBW;replace hq42:=hq42.back hBW;replace hBW:=hBW.trans (b42.mono hBW.size);replace l4000:=below_cell b42 l4000;replace l4001:=below_cell b42 l4001;replace l4002:=below_cell b42 l4002;replace l4003:=below_cell b42 l4003;replace l4004:=below_cell b42 l4004;replace l4005:=below_cell b42 l4005;replace hL400:=below_row b42 hL400;replace kp:=kp.later b42;replace kq:=kq.later b42;replace kr:=kr.later b42;replace kt:=kt.later b42;replace hp41:=hp41.later b42;replace hq41:=hq41.later b42)
     | (go_at_call 9;refine (H3.out _ _ _ _ _ _ _ _ _ kp kq kr kt hp41.seg hq41.seg hp42.seg hq42.seg).mono ?_;rintro e w43 ⟨rfl,b43⟩;replace hBW:=hBW.trans (b43.mono hBW.size);replace l4000:=below_cell b43 l4000;replace l4001:=below_cell b43 l4001;replace l4002:=below_cell b43 l4002;replace l4003:=below_cell b43 l4003;replace l4004:=below_cell b43 l4004;replace l4005:=below_cell b43 l4005;replace hL400:=below_row b43 hL400;replace kp:=kp.later b43;replace kq:=kq.later b43;replace kr:=kr.later b43;replace kt:=kt.later b43;replace hp41:=hp41.later b43;replace hq41:=hq41.later b43;replace hp42:=hp42.later b43;replace hq42:=hq42.later b43))
  | fail
 go_wp2
 go_ret
 exact ⟨rfl,hB.trans (hBW.mono hB.size)⟩
end Go.Proofs.YtfppjaoddicgpaaGreatDoor
