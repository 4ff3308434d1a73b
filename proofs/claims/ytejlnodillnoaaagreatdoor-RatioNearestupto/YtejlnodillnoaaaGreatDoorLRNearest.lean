import Derived.Test.YtejlnodillnoaaaGreatDoorWJ4
import Derived.Test.YtejlnodillnoaaaGreatDoorWQE
import Derived.Test.YtejlnodillnoaaaGreatDoorWQG
import Derived.Test.YtejlnodillnoaaaGreatDoorWQD
import Derived.Test.YtejlnodillnoaaaGreatDoorThr3
import Derived.Test.YtejlnodillnoaaaGreatDoorWQI
import Derived.Deep.CutRange
import Derived.Test.YtejlnodillnoaaaGreatDoorWQF
import Derived.Test.YtejlnodillnoaaaGreatDoorWQ5
import Derived.Test.YtejlnodillnoaaaGreatDoorWBE
import Derived.Test.YtejlnodillnoaaaGreatDoorWQ0
import Derived.Handy
import Derived.Test.YtejlnodillnoaaaGreatDoorWQ2
import Derived.Test.YtejlnodillnoaaaGreatDoorWQA
import Derived.Lib.Bytealg
import Derived.Test.YtejlnodillnoaaaGreatDoorW5
import Derived.Test.YtejlnodillnoaaaGreatDoorOpenQ
import Derived.Test.YtejlnodillnoaaaGreatDoorCards
import Derived.Test.YtejlnodillnoaaaGreatDoorTie
import Derived.Deep.DeepHandedRow
import Derived.Lib.LaidTab
import Derived.Test.YtejlnodillnoaaaGreatDoorWBG
set_option linter.unusedSimpArgs false
namespace Go.Proofs.YtejlnodillnoaaaGreatDoor
open Go.RowKit
set_option linter.unusedVariables false
def Digits (w:World):Prop:=w.cell? ⟨1,0,none⟩=some (.int .u8 48)∧w.cell? ⟨1,1,none⟩=some (.int .u8 49)∧w.cell? ⟨1,2,none⟩=some (.int .u8 50)∧w.cell? ⟨1,3,none⟩=some (.int .u8 51)∧w.cell? ⟨1,4,none⟩=some (.int .u8 52)
theorem Digits.below {w w':World} (h:Digits w) (hb:Below w.heap.size w w'):Digits w':=by
 have g:∀ {p:Addr} {v:Value},w.cell? p=some v→w'.cell? p=some v:=fun {p v} hc=>by
  rw [hb.cell (World.block_lt_of_cell? w p hc)];exact hc
 exact ⟨g h.1,g h.2.1,g h.2.2.1,g h.2.2.2.1,g h.2.2.2.2⟩
set_option maxHeartbeats 1000000 in
theorem digitOf_2 (c:Int) (hc:c=50) (w:World) (h:Digits w):Calls Tryz.prog 145 #[.int .u8 c,.int .i64 10] w fun e w'=>e=.returned (.int .i64 2)∧w'=w:=by
 subst hc
 obtain ⟨h0,h1,h2,h3,h4⟩:=h
 go_enter Tryz.func145,Tryz.ntmps145
 go_wp2
 go_rounds 4
 all_goals go_ret
 all_goals exact ⟨rfl,rfl⟩
set_option maxHeartbeats 1000000 in
theorem digitOf_4 (c:Int) (hc:c=52) (w:World) (h:Digits w):Calls Tryz.prog 145 #[.int .u8 c,.int .i64 10] w fun e w'=>e=.returned (.int .i64 4)∧w'=w:=by
 subst hc
 obtain ⟨h0,h1,h2,h3,h4⟩:=h
 go_enter Tryz.func145,Tryz.ntmps145
 go_wp2
 go_rounds 6
 all_goals go_ret
 all_goals exact ⟨rfl,rfl⟩
set_option maxHeartbeats 1000000 in
theorem isText_2 (w:World) (h:Digits w):Calls Tryz.prog 127 #[.string ⟨#[50]⟩,.int .i64 10] w fun e w'=>e=.returned (.bool true)∧Dr w w':=by
 have hs:(⟨#[50]⟩:ByteArray).size=1:=rfl
 have he:((⟨#[50]⟩:ByteArray) == ByteArray.empty)=false:=by decide
 go_enter Tryz.func127,Tryz.ntmps127
 go_wp2
 go_quiet (fail)
 go_wp2
 refine wp_loop_rounds 2 ?_
 rw [rounds_succ]
 go_wp2_with (go_at_call 145;refine (digitOf_2 _ rfl _ (by exact h)).mono ?_;rintro e w1 ⟨rfl,rfl⟩)
 rw [rounds_succ]
 go_wp2
 go_ret
 exact ⟨rfl,⟨_,rfl⟩⟩
set_option maxHeartbeats 1000000 in
theorem isText_4 (w:World) (h:Digits w):Calls Tryz.prog 127 #[.string ⟨#[52]⟩,.int .i64 10] w fun e w'=>e=.returned (.bool true)∧Dr w w':=by
 have hs:(⟨#[52]⟩:ByteArray).size=1:=rfl
 have he:((⟨#[52]⟩:ByteArray) == ByteArray.empty)=false:=by decide
 go_enter Tryz.func127,Tryz.ntmps127
 go_wp2
 go_quiet (fail)
 go_wp2
 refine wp_loop_rounds 2 ?_
 rw [rounds_succ]
 go_wp2_with (go_at_call 145;refine (digitOf_4 _ rfl _ (by exact h)).mono ?_;rintro e w1 ⟨rfl,rfl⟩)
 rw [rounds_succ]
 go_wp2
 go_ret
 exact ⟨rfl,⟨_,rfl⟩⟩
theorem isBase_10 (w:World):Calls Tryz.prog 126 #[.int .i64 10] w fun e w'=>e=.returned (.bool true)∧w'=w:=by
 go_enter Tryz.func126,Tryz.ntmps126
 go_wp2
 go_ret
 exact ⟨rfl,rfl⟩
set_option maxHeartbeats 2000000 in
theorem scaleOf_10 (w:World):Calls Tryz.prog 128 #[.int .i64 10] w fun e w'=>∃ a,e=.returned (.agg #[.int .i64 10,.int .i64 9,.slice none 0 0,.slice a (ln 1000000000) (ln 1000000000)])∧Below w.heap.size w w':=by
 obtain ⟨N,hN⟩:∃ N:Nat,1000000000=N:=⟨_,rfl⟩
 have HO':∀ w',Calls Tryz.prog 92 #[.int .u64 1000000000] w' fun e w''=>∃ ao,e=.returned (.slice ao (ln N) (ln N))∧New w' w'' ao N (ln N):=fun w'=>by subst hN;exact Of_any 1000000000 w' (by omega)
 have HO:=hide' HO'
 rw [hN]
 clear HO' hN
 have hB:=below_alloc (w:=w) (.cells #[.int .i64 0,.int .i64 0,.slice none 0 0,.slice none 0 0] 124)
 have hR:=row_new w #[.int .i64 0,.int .i64 0,.slice none 0 0,.slice none 0 0] 124
 have c0:(w.alloc (.cells #[.int .i64 0,.int .i64 0,.slice none 0 0,.slice none 0 0] 124)).cell? ⟨w.heap.size,0,none⟩=some (.int .i64 0):=by go_simp
 have c1:(w.alloc (.cells #[.int .i64 0,.int .i64 0,.slice none 0 0,.slice none 0 0] 124)).cell? ⟨w.heap.size,1,none⟩=some (.int .i64 0):=by go_simp
 have c2:(w.alloc (.cells #[.int .i64 0,.int .i64 0,.slice none 0 0,.slice none 0 0] 124)).cell? ⟨w.heap.size,2,none⟩=some (.slice none 0 0):=by go_simp
 have c3:(w.alloc (.cells #[.int .i64 0,.int .i64 0,.slice none 0 0,.slice none 0 0] 124)).cell? ⟨w.heap.size,3,none⟩=some (.slice none 0 0):=by go_simp
 go_enter Tryz.func128,Tryz.ntmps128
 go_wp2_with fail
 refine wp_loop_rounds 10 ?_
 repeat (rw [rounds_succ];go_wp2_with fail)
 refine (HO.out _).mono ?_
 rintro e w1 ⟨a1,rfl,h1⟩
 have b1:=h1.below
 replace c0:=below_cell b1 c0
 replace c1:=below_cell b1 c1
 replace c2:=below_cell b1 c2
 replace c3:=below_cell b1 c3
 replace hR:=below_row b1 hR
 have fz:=fun o=>hR.frozen o
 go_wp2
 refine bodyPost_ret (v:=.agg #[.int .i64 10,.int .i64 9,.slice none 0 0,.slice a1 (ln N) (ln N)]) (by rw [results_cell rfl];go_simp) rfl ?_
 exact ⟨a1,rfl,bset (bset (bset (bset (hB.trans (b1.mono hB.size)) (Nat.le_refl _)) (Nat.le_refl _)) (Nat.le_refl _)) (Nat.le_refl _)⟩
set_option maxHeartbeats 2000000 in
theorem readLimb_2 (b:Nat) (w:World) (h:Digits w) (hb:w.cell? ⟨b,0,none⟩=some (.int .i64 10)):Calls Tryz.prog 146 #[.pointer (some ⟨b,0,none⟩),.string ⟨#[50]⟩] w fun e w'=>∃ a,e=.returned (.slice a (ln 2) (ln 2))∧New w w' a 2 (ln 2):=by
 have hs:(⟨#[50]⟩:ByteArray).size=1:=rfl
 have HD:=hide' (fun c w' (hc:c=50) k=>digitOf_2 c hc w' k)
 have HO:=hide' (fun w'=>Of_any 2 w' (by omega))
 go_enter Tryz.func146,Tryz.ntmps146
 go_wp2_with fail
 refine wp_loop_rounds 2 ?_
 rw [rounds_succ]
 go_wp2_with fail
 go_quiet ((go_at_call 145;exact Calls.quiet_of_same (HD.out _ _ rfl (by exact h))))
 go_wp2_with fail
 rw [rounds_succ]
 go_wp2_with fail
 refine (HO.out _).mono ?_
 rintro e w1 ⟨a1,rfl,h1⟩
 go_wp2
 go_ret
 exact ⟨a1,rfl,h1.back (below_drewN (Below.refl _ _))⟩
set_option maxHeartbeats 2000000 in
theorem read_2 (b:Nat) (w:World) (h:Digits w) (hb:w.cell? ⟨b,0,none⟩=some (.int .i64 10)):Calls Tryz.prog 130 #[.pointer (some ⟨b,0,none⟩),.string ⟨#[50]⟩,.int .i64 0] w fun e w'=>∃ a,e=.returned (.slice a (ln 2) (ln 2))∧New w w' a 2 (ln 2):=by
 have HR:=hide' (readLimb_2 b w h hb)
 go_enter Tryz.func130,Tryz.ntmps130
 go_wp2_with fail
 refine HR.out.mono ?_
 rintro e w1 ⟨a1,rfl,h1⟩
 go_wp2
 go_ret
 exact ⟨a1,rfl,h1⟩
set_option maxHeartbeats 2000000 in
theorem Parse_2 (w:World) (h:Digits w):Calls Tryz.prog 114 #[.string ⟨#[50]⟩,.int .i64 10] w fun e w'=>∃ a,e=.returned (.tuple #[.slice a (ln 2) (ln 2),.int .i64 0])∧New w w' a 2 (ln 2):=by
 have hs:(⟨#[50]⟩:ByteArray).size=1:=rfl
 have H1:=hide' (isText_2 w h)
 have H2:=hide' scaleOf_10
 have H3:=hide' (fun b w' k1 k2=>read_2 b w' k1 k2)
 obtain ⟨N,hN⟩:∃ N:Nat,ln 1000000000=N:=⟨_,rfl⟩
 rw [hN] at H2
 go_enter Tryz.func114,Tryz.ntmps114
 go_wp2_with fail
 refine (isBase_10 _).mono ?_
 rintro e w0 ⟨rfl,rfl⟩
 go_wp2_with fail
 refine H1.out.mono ?_
 rintro e w1 ⟨rfl,hd1⟩
 go_wp2_with fail
 refine (H2.out _).mono ?_
 rintro e w2 ⟨a2,rfl,b2⟩
 have hB:=(hd1.below w0.heap.size).trans (b2.mono (hd1.below w0.heap.size).size)
 have hc:=below_alloc (w:=w2) (.cells #[.int .i64 10,.int .i64 9,.slice none 0 0,.slice a2 N N] 124)
 have hB2:=hB.trans (hc.mono hB.size)
 have hg:=h.below hB2
 have hx:(w2.alloc (.cells #[.int .i64 10,.int .i64 9,.slice none 0 0,.slice a2 N N] 124)).cell? ⟨w2.heap.size,0,none⟩=some (.int .i64 10):=by go_simp
 have H4:=hide' (H3.out _ _ hg hx)
 go_wp2_with fail
 refine wp_loop_rounds 1 ?_
 rw [rounds_succ]
 go_wp2_with fail
 refine H4.out.mono ?_
 rintro e w3 ⟨a3,rfl,h3⟩
 go_wp2
 go_ret2
 exact ⟨a3,rfl,h3.back hB2⟩
set_option maxHeartbeats 2000000 in
theorem readLimb_4 (b:Nat) (w:World) (h:Digits w) (hb:w.cell? ⟨b,0,none⟩=some (.int .i64 10)):Calls Tryz.prog 146 #[.pointer (some ⟨b,0,none⟩),.string ⟨#[52]⟩] w fun e w'=>∃ a,e=.returned (.slice a (ln 4) (ln 4))∧New w w' a 4 (ln 4):=by
 have hs:(⟨#[52]⟩:ByteArray).size=1:=rfl
 have HD:=hide' (fun c w' (hc:c=52) k=>digitOf_4 c hc w' k)
 have HO:=hide' (fun w'=>Of_any 4 w' (by omega))
 go_enter Tryz.func146,Tryz.ntmps146
 go_wp2_with fail
 refine wp_loop_rounds 2 ?_
 rw [rounds_succ]
 go_wp2_with fail
 go_quiet ((go_at_call 145;exact Calls.quiet_of_same (HD.out _ _ rfl (by exact h))))
 go_wp2_with fail
 rw [rounds_succ]
 go_wp2_with fail
 refine (HO.out _).mono ?_
 rintro e w1 ⟨a1,rfl,h1⟩
 go_wp2
 go_ret
 exact ⟨a1,rfl,h1.back (below_drewN (Below.refl _ _))⟩
set_option maxHeartbeats 2000000 in
theorem read_4 (b:Nat) (w:World) (h:Digits w) (hb:w.cell? ⟨b,0,none⟩=some (.int .i64 10)):Calls Tryz.prog 130 #[.pointer (some ⟨b,0,none⟩),.string ⟨#[52]⟩,.int .i64 0] w fun e w'=>∃ a,e=.returned (.slice a (ln 4) (ln 4))∧New w w' a 4 (ln 4):=by
 have HR:=hide' (readLimb_4 b w h hb)
 go_enter Tryz.func130,Tryz.ntmps130
 go_wp2_with fail
 refine HR.out.mono ?_
 rintro e w1 ⟨a1,rfl,h1⟩
 go_wp2
 go_ret
 exact ⟨a1,rfl,h1⟩
set_option maxHeartbeats 2000000 in
theorem Parse_4 (w:World) (h:Digits w):Calls Tryz.prog 114 #[.string ⟨#[52]⟩,.int .i64 10] w fun e w'=>∃ a,e=.returned (.tuple #[.slice a (ln 4) (ln 4),.int .i64 0])∧New w w' a 4 (ln 4):=by
 have hs:(⟨#[52]⟩:ByteArray).size=1:=rfl
 have H1:=hide' (isText_4 w h)
 have H2:=hide' scaleOf_10
 have H3:=hide' (fun b w' k1 k2=>read_4 b w' k1 k2)
 obtain ⟨N,hN⟩:∃ N:Nat,ln 1000000000=N:=⟨_,rfl⟩
 rw [hN] at H2
 go_enter Tryz.func114,Tryz.ntmps114
 go_wp2_with fail
 refine (isBase_10 _).mono ?_
 rintro e w0 ⟨rfl,rfl⟩
 go_wp2_with fail
 refine H1.out.mono ?_
 rintro e w1 ⟨rfl,hd1⟩
 go_wp2_with fail
 refine (H2.out _).mono ?_
 rintro e w2 ⟨a2,rfl,b2⟩
 have hB:=(hd1.below w0.heap.size).trans (b2.mono (hd1.below w0.heap.size).size)
 have hc:=below_alloc (w:=w2) (.cells #[.int .i64 10,.int .i64 9,.slice none 0 0,.slice a2 N N] 124)
 have hB2:=hB.trans (hc.mono hB.size)
 have hg:=h.below hB2
 have hx:(w2.alloc (.cells #[.int .i64 10,.int .i64 9,.slice none 0 0,.slice a2 N N] 124)).cell? ⟨w2.heap.size,0,none⟩=some (.int .i64 10):=by go_simp
 have H4:=hide' (H3.out _ _ hg hx)
 go_wp2_with fail
 refine wp_loop_rounds 1 ?_
 rw [rounds_succ]
 go_wp2_with fail
 refine H4.out.mono ?_
 rintro e w3 ⟨a3,rfl,h3⟩
 go_wp2
 go_ret2
 exact ⟨a3,rfl,h3.back hB2⟩
theorem hasPrefix_24 (w:World):Calls Tryz.prog 112 #[.string ⟨#[50,47,52]⟩,.string ⟨#[45]⟩] w fun e w'=>e=.returned (.bool false)∧w'=w:=by
 have h1:(⟨#[50,47,52]⟩:ByteArray).size=3:=rfl
 have h2:(⟨#[45]⟩:ByteArray).size=1:=rfl
 have h3:(((⟨#[50,47,52]⟩:ByteArray).extract 0 1).toList == [45])=false:=by decide +kernel
 go_enter Tryz.func112,Tryz.ntmps112
 go_wp2
 go_ret
 exact ⟨rfl,rfl⟩
theorem cutPrefix1_24 (w:World):Calls Tryz.prog 100 #[.string ⟨#[50,47,52]⟩,.string ⟨#[45]⟩] w fun e w'=>e=.returned (.tuple #[.string ⟨#[50,47,52]⟩,.bool false])∧w'=w:=by
 go_enter Tryz.func100,Tryz.ntmps100
 go_wp2_with fail
 refine (hasPrefix_24 _).mono ?_
 rintro e w1 ⟨rfl,rfl⟩
 go_wp2
 go_ret2
 exact ⟨rfl,rfl⟩
theorem cutPrefix_24 (w:World):Calls Tryz.prog 76 #[.string ⟨#[50,47,52]⟩,.string ⟨#[45]⟩] w fun e w'=>e=.returned (.tuple #[.string ⟨#[50,47,52]⟩,.bool false])∧w'=w:=by
 go_enter Tryz.func76,Tryz.ntmps76
 go_wp2_with fail
 refine (cutPrefix1_24 _).mono ?_
 rintro e w1 ⟨rfl,rfl⟩
 go_wp2
 go_ret2
 exact ⟨rfl,rfl⟩
set_option maxRecDepth 100000 in
theorem indexByte_24 (w:World):Calls Tryz.prog 141 #[.string ⟨#[50,47,52]⟩,.int .u8 47] w fun e w'=>e=.returned (.int .i64 1)∧w'=w:=by
 go_enter Tryz.func141,Tryz.ntmps141
 go_wp2
 rw [run_callFunc_extern Tryz.func159 (by kernel_rfl) (by kernel_rfl) (by kernel_rfl) (e:=Extern.BytealgIndexByte.indexByte) (by kernel_rfl),Lib.run_indexByteString]
 simp only [Result.andThen]
 rw [Oper.upon_value]
 go_wp2
 go_ret
 exact ⟨rfl,rfl⟩
set_option maxRecDepth 100000 in
theorem index_24 (w:World):Calls Tryz.prog 125 #[.string ⟨#[50,47,52]⟩,.string ⟨#[47]⟩] w fun e w'=>e=.returned (.int .i64 1)∧w'=w:=by
 have h1:(⟨#[50,47,52]⟩:ByteArray).size=3:=rfl
 have h2:(⟨#[47]⟩:ByteArray).size=1:=rfl
 have HI:=hide' indexByte_24
 go_enter Tryz.func125,Tryz.ntmps125
 go_wp2_with fail
 refine (HI.out _).mono ?_
 rintro e w1 ⟨rfl,rfl⟩
 go_wp2
 go_ret
 exact ⟨rfl,rfl⟩
set_option maxRecDepth 100000 in
theorem cut1_24 (w:World):Calls Tryz.prog 113 #[.string ⟨#[50,47,52]⟩,.string ⟨#[47]⟩] w fun e w'=>e=.returned (.tuple #[.string ⟨#[50]⟩,.string ⟨#[52]⟩,.bool true])∧Dr w w':=by
 have h1:(⟨#[50,47,52]⟩:ByteArray).size=3:=rfl
 have h2:(⟨#[47]⟩:ByteArray).size=1:=rfl
 have e1:(⟨#[50,47,52]⟩:ByteArray).extract 0 1=⟨#[50]⟩:=by decide +kernel
 have e2:(⟨#[50,47,52]⟩:ByteArray).extract 2 3=⟨#[52]⟩:=by decide +kernel
 have HI:=hide' index_24
 go_enter Tryz.func113,Tryz.ntmps113
 go_wp2_with fail
 refine (HI.out _).mono ?_
 rintro e w1 ⟨rfl,rfl⟩
 go_wp2_with fail
 go_quiet (fail)
 go_wp2
 go_ret3
 exact ⟨by first | rfl | simp only [e1,e2],⟨_,rfl⟩⟩
theorem cut_24 (w:World):Calls Tryz.prog 101 #[.string ⟨#[50,47,52]⟩,.string ⟨#[47]⟩] w fun e w'=>e=.returned (.tuple #[.string ⟨#[50]⟩,.string ⟨#[52]⟩,.bool true])∧Dr w w':=by
 have HI:=hide' (cut1_24 w)
 go_enter Tryz.func101,Tryz.ntmps101
 go_wp2_with fail
 refine HI.out.mono ?_
 rintro e w1 ⟨rfl,hd⟩
 go_wp2
 go_ret3
 exact ⟨rfl,hd⟩
set_option maxHeartbeats 1000000 in
theorem quotient_24 (w:World) (h:Digits w):Calls Tryz.prog 102 #[.string ⟨#[50]⟩,.string ⟨#[52]⟩] w fun e w'=>∃ p q,e=.returned (.tuple #[.slice p (ln 2) (ln 2),.slice q (ln 4) (ln 4),.int .i64 0])∧New w w' p 2 (ln 2)∧New w w' q 4 (ln 4):=by
 obtain ⟨A2,hA2⟩:∃ A2:Nat,2=A2:=⟨_,rfl⟩
 obtain ⟨A4,hA4⟩:∃ A4:Nat,4=A4:=⟨_,rfl⟩
 have l4:ln A4≤2:=by rw [←hA4];exact ln_le_of_lt (by rw [BB2];decide)
 have P2:Calls Tryz.prog 114 #[.string ⟨#[50]⟩,.int .i64 10] w fun e w'=>∃ a,e=.returned (.tuple #[.slice a (ln A2) (ln A2),.int .i64 0])∧New w w' a A2 (ln A2):=by subst hA2;exact Parse_2 w h
 have P4:∀ w',Digits w'→Calls Tryz.prog 114 #[.string ⟨#[52]⟩,.int .i64 10] w' fun e w''=>∃ a,e=.returned (.tuple #[.slice a (ln A4) (ln A4),.int .i64 0])∧New w' w'' a A4 (ln A4):=by subst hA4;exact Parse_4
 have hb:(((bl A4:Nat):Int) == 0)=false:=by rw [bl_beq,←hA4];rfl
 have Q2:=hide' P2
 have Q4:=hide' P4
 rw [show ln 2=ln A2 by rw [hA2],show ln 4=ln A4 by rw [hA4]]
 have e2:∀ w' q,New w w' q 2 (ln A2)↔New w w' q A2 (ln A2):=fun w' q=>by rw [←hA2]
 have e4:∀ w' q,New w w' q 4 (ln A4)↔New w w' q A4 (ln A4):=fun w' q=>by rw [←hA4]
 simp only [e2,e4]
 clear P2 P4 hA2 hA4 e2 e4
 go_enter Tryz.func102,Tryz.ntmps102
 go_wp2_with fail
 refine Q2.out.mono ?_
 rintro e w1 ⟨a1,rfl,h1⟩
 go_wp2_with fail
 refine (Q4.out _ (h.below h1.below)).mono ?_
 rintro e w2 ⟨a2,rfl,h2⟩
 have g1:=h1.later h2.below
 have g2:=h2.back h1.below
 go_wp2_with fail
 refine (Bits_any a2 (ln A4) (ln A4) A4 _ (Nat.le_refl _) (by omega) h2.seg).mono ?_
 rintro e w3 ⟨rfl,rfl⟩
 go_wp2
 go_ret3
 exact ⟨a1,a2,rfl,g1,g2⟩
set_option maxHeartbeats 1000000 in
theorem parts_24 (w:World) (h:Digits w):Calls Tryz.prog 77 #[.string ⟨#[50,47,52]⟩] w fun e w'=>∃ p q,e=.returned (.tuple #[.slice p (ln 2) (ln 2),.slice q (ln 4) (ln 4),.int .i64 0])∧New w w' p 2 (ln 2)∧New w w' q 4 (ln 4):=by
 have H1:=hide' (cut_24 w)
 have H2:=hide' quotient_24
 go_enter Tryz.func77,Tryz.ntmps77
 go_wp2_with fail
 refine H1.out.mono ?_
 rintro e w1 ⟨rfl,hd⟩
 have b1:=hd.below w.heap.size
 go_wp2_with fail
 refine (H2.out _ (h.below b1)).mono ?_
 rintro e w2 ⟨p,q,rfl,h1,h2⟩
 go_wp2
 go_ret3
 exact ⟨p,q,rfl,h1.back b1,h2.back b1⟩
theorem ln_two:ln 2=1:=ln_of_top (by rw [BB_eq];omega) (by rw [dg0];omega)
theorem low_24:Low (sg false 2) ((4:Nat):Int) 1 2:=⟨by decide,by omega,by decide,by decide⟩
set_option maxHeartbeats 1000000 in
set_option maxRecDepth 100000 in
theorem qParse_24 (w:World) (h:Digits w):Calls Tryz.prog 40 #[.string ⟨#[50,47,52]⟩] w fun e w'=>∃ p q,e=.returned (.tuple #[.agg #[.bool false,.slice p 1 1,.slice q 1 1],.int .i64 0])∧New w w' p 1 1∧New w w' q 2 1:=by
 obtain ⟨A2,hA2⟩:∃ A2:Nat,2=A2:=⟨_,rfl⟩
 obtain ⟨A4,hA4⟩:∃ A4:Nat,4=A4:=⟨_,rfl⟩
 have l2:ln A2≤2:=by rw [←hA2];exact ln_le_of_lt (by rw [BB2];decide)
 have l4:ln A4≤2:=by rw [←hA4];exact ln_le_of_lt (by rw [BB2];decide)
 have H0:=hide' cutPrefix_24
 have P1:∀ w',Digits w'→Calls Tryz.prog 77 #[.string ⟨#[50,47,52]⟩] w' fun e w''=>∃ p q,e=.returned (.tuple #[.slice p (ln A2) (ln A2),.slice q (ln A4) (ln A4),.int .i64 0])∧New w' w'' p A2 (ln A2)∧New w' w'' q A4 (ln A4):=by subst hA2 hA4;exact parts_24
 have P2:∀ w' p q,Seg w' p A2 (ln A2)→Seg w' q A4 (ln A4)→Calls Tryz.prog 69 #[.agg #[.bool false,.slice p (ln A2) (ln A2),.bool false,.slice q (ln A4) (ln A4)]] w' fun e w''=>∃ p q,e=.returned (.agg #[.bool false,.slice p 1 1,.slice q 1 1])∧New w' w'' p 1 1∧New w' w'' q 2 1:=fun w' p q k1 k2=>by
  subst hA2 hA4
  have:=lowest_is false p (ln 2) (ln 2) 2 q (ln 4) (ln 4) 4 2 1 w' (Nat.le_refl _) (by omega) k1 (Nat.le_refl _) (by omega) k2 low_24
  rw [show ng 1=false from rfl,show am 1=1 from rfl,ln_one,ln_two] at this
  rw [ln_two]
  exact this
 have H1:=hide' P1
 have H2:=hide' P2
 have HD:=hide' h
 clear P1 P2 hA2 hA4 h
 go_enter Tryz.func40,Tryz.ntmps40
 go_wp2_with fail
 obtain ⟨W,hW⟩:∃ W,(w.alloc (.cells #[.bool false,.slice none 0 0,.slice none 0 0] 27))=W:=⟨_,rfl⟩
 have r00:W.cell? ⟨w.heap.size,0,none⟩=some (.bool false):=by subst hW;go_simp
 have r01:W.cell? ⟨w.heap.size,1,none⟩=some (.slice none 0 0):=by subst hW;go_simp
 have r02:W.cell? ⟨w.heap.size,2,none⟩=some (.slice none 0 0):=by subst hW;go_simp
 have hB:Below w.heap.size w W:=by subst hW;exact ((Below.refl _ _).alloc (by (try simp only [World.size_alloc]);omega) _)
 have hR0:Row W (w.heap.size):=by
  have:=row_new (w) #[.bool false,.slice none 0 0,.slice none 0 0] 27
  try simp only [World.size_alloc] at this
  subst hW;exact this
 have hz:W.heap.size=w.heap.size+1:=by subst hW;simp only [World.size_alloc]
 rw [hW]
 clear hW
 have hBW:Below W.heap.size W W:=Below.refl _ _
 refine (H0.out _).mono ?_
 rintro e w1 ⟨rfl,rfl⟩
 go_wp2_with fail
 refine (H1.out _ (HD.out.below (hB.trans (hBW.mono hB.size)))).mono ?_
 rintro e w41 ⟨p41,q41,rfl,hp41,hq41⟩
 have b41:=hp41.below
 replace hp41:=hp41.back hBW
 replace hq41:=hq41.back hBW
 replace hBW:=hBW.trans (b41.mono hBW.size)
 replace r00:=below_cell b41 r00
 replace r01:=below_cell b41 r01
 replace r02:=below_cell b41 r02
 replace hR0:=below_row b41 hR0
 go_wp2_with fail
 refine (H2.out _ p41 q41 hp41.seg hq41.seg).mono ?_
 rintro e w42 ⟨p42,q42,rfl,hp42,hq42⟩
 have b42:=hp42.below
 replace hp42:=hp42.back hBW
 replace hq42:=hq42.back hBW
 replace hBW:=hBW.trans (b42.mono hBW.size)
 replace r00:=below_cell b42 r00
 replace r01:=below_cell b42 r01
 replace r02:=below_cell b42 r02
 replace hR0:=below_row b42 hR0
 replace hp41:=hp41.later b42
 replace hq41:=hq41.later b42
 have fz0:=fun o=>hR0.frozen o
 go_wp2
 all_goals refine bodyPost_ret (v:=.tuple #[.agg #[.bool false,.slice p42 1 1,.slice q42 1 1],.int .i64 0]) (by rw [results_ct rfl];go_simp) rfl ?_
 all_goals exact ⟨p42,q42,rfl,hp42.mid hB (((((Mid.refl _ _ _).set _ _ (by omega) (by omega) _).set _ _ (by omega) (by omega) _).set _ _ (by omega) (by omega) _)),hq42.mid hB (((((Mid.refl _ _ _).set _ _ (by omega) (by omega) _).set _ _ (by omega) (by omega) _).set _ _ (by omega) (by omega) _))⟩
set_option maxHeartbeats 1000000 in
set_option maxRecDepth 100000 in
theorem half_is (w:World) (h:Digits w):Calls Tryz.prog 12 #[] w fun e w'=>e=.returned (.bool true)∧Below w.heap.size w w':=by
 have P1:∀ w' p q p2 q2,Seg w' p 1 1→Seg w' q 2 1→Seg w' p2 1 1→Seg w' q2 2 1→Calls Tryz.prog 10 #[.agg #[.bool false,.slice p 1 1,.slice q 1 1],.agg #[.bool false,.slice p2 1 1,.slice q2 1 1]] w' fun e w''=>e=.returned (.bool true)∧Below w'.heap.size w' w'':=fun w' p q p2 q2 k1 k2 k3 k4=>by
  have:=sameQ_is 1 2 p q p2 q2 w' (by rw [show am 1=1 from rfl,ln_one];omega) (by rw [ln_two];omega) (by rw [show am 1=1 from rfl,ln_one];exact k1) (by rw [ln_two];exact k2) (by rw [show am 1=1 from rfl,ln_one];exact k3) (by rw [ln_two];exact k4)
  rwa [show ng 1=false from rfl,show am 1=1 from rfl,ln_one,ln_two] at this
 have H0:=hide' (qParse_24 w h)
 have H1:=hide' P1
 clear P1 h
 go_enter Tryz.func12,Tryz.ntmps12
 go_wp2_with fail
 refine H0.out.mono ?_
 rintro e w1 ⟨p,q,rfl,hp,hq⟩
 have b1:=below_alloc (w:=w1) (.cells #[.bool false,.slice p 1 1,.slice q 1 1] 27)
 have n1:=single_new (w1.alloc (.cells #[.bool false,.slice p 1 1,.slice q 1 1] 27)) 1 60 1 (by omega) rfl
 have n2:=single_new ((w1.alloc (.cells #[.bool false,.slice p 1 1,.slice q 1 1] 27)).alloc (.cells #[.int .u32 1] 60)) 2 60 2 (by omega) rfl
 simp only [World.size_alloc] at n1 n2
 have kp:=(hp.seg.later b1).later n1.below
 have kq:=(hq.seg.later b1).later n1.below
 have hB:=(hp.below.trans (b1.mono hp.below.size)).trans (n1.below.mono (Nat.le_trans hp.below.size b1.size))
 have hB2:=hB.trans (n2.below.mono hB.size)
 have H2:=hide' (H1.out _ p q _ _ (kp.later n2.below) (kq.later n2.below) (n1.seg.later n2.below) n2.seg)
 go_wp2_with fail
 refine H2.out.mono ?_
 rintro e w2 ⟨rfl,b2⟩
 go_wp2
 go_ret
 exact ⟨rfl,hB2.trans (b2.mono hB2.size)⟩
end Go.Proofs.YtejlnodillnoaaaGreatDoor
namespace Go.Proofs.YtejlnodillnoaaaGreatDoor.ratioNearest
open Go.ChangeShapes Go.WideShapes Go.ChangeAt Go.RowKit Go.Proofs.YtejlnodillnoaaaGreatDoor
set_option linter.unusedVariables false
set_option maxHeartbeats 8000000 in
set_option maxRecDepth 100000 in
theorem walk0 (A:RatV) (a:Option Addr) (n c M:Nat) (w:World) (hA:A.ok w) (hn:A.n≤1048576∧A.m≤1048576) (hc:n≤c) (hm:n≤1048576) (hS:Seg w a M n) (hDg:Digits w) (h0:M=0) :
  Calls Tryz.prog 5 #[.agg #[.bool A.s,.slice A.a A.n A.c,.slice A.b A.m A.e],.slice a n c] w fun e w'=>e=.returned (.bool true)∧Below w.heap.size w w':=by
 have GT:=hide' (fun w' k=>twinQ A w' k)
 have GA:=hide' (fun w' k=>lnat_any a n c M w' (by omega) k)
 have GB:=hide' (fun w' p q p2 (k1:(twR A p q).ok w') (k2:Seg w' p2 M n)=>(Best_is (twR A p q) p2 n n M w' k1 ⟨by show A.n≤_;omega,by show A.m≤_;omega⟩ (Nat.le_refl _) (by omega) k2).mono (fun e w2 h=>(show e=.returned (.tuple #[.agg #[.bool false,.slice none 0 0,.slice none 0 0],.int .i64 11])∧Below w'.heap.size w' w2 by rcases h with ⟨_,h⟩ | ⟨h,_⟩ <;> first | exact h | exact absurd h0 h)))
 have GV:=hide' (fun w' (k1:A.ok w') (k2:Seg w' a M n)=>(vBest_is A a n c M w' k1 hn hm k2).mono (fun e w2 h=>(show e=.returned (.tuple #[.agg #[.bool false,.slice none 0 0,.slice none 0 0],.int .i64 11])∧Below w'.heap.size w' w2 by rcases h with ⟨_,h⟩ | ⟨h,_⟩ <;> first | exact h | exact absurd h0 h)))
 have GD:=hide' hDg
 clear hDg
 have bel:Below w.heap.size w w:=Below.refl _ _
 have bb:=below_alloc (w:=w) (.cells #[.bool A.s,.slice A.a A.n A.c,.slice A.b A.m A.e] 27)
 replace hS:=hS.later bb
 replace hA:=hA.on bb
 replace GD:=hide' (GD.out.below bb)
 replace bel:=bel.trans (bb.mono bel.size)
 clear bb
 have qa:=Blk.new w #[.bool A.s,.slice A.a A.n A.c,.slice A.b A.m A.e] 27
 go_enter Tryz.func5,Tryz.ntmps5
 go_wp2_with fail
 obtain ⟨W0,hW⟩:∃ W,(w.alloc (.cells #[.bool A.s,.slice A.a A.n A.c,.slice A.b A.m A.e] 27))=W:=⟨_,rfl⟩
 rw [hW] at bel hS qa hA GD ⊢
 clear hW
 refine (GT.out _ hA).mono ?_
 rintro e w1 ⟨p,q,rfl,b1,oT⟩
 have bb:=b1
 replace hS:=hS.later bb
 replace qa:=qa.later bb
 replace hA:=hA.on bb
 replace GD:=hide' (GD.out.below bb)
 replace bel:=bel.trans (bb.mono bel.size)
 clear bb
 clear b1
 go_wp2_with fail
 refine (GA.out _ hS).mono ?_
 rintro e w2 ⟨p2,rfl,n1⟩
 have bb:=n1.below
 replace hS:=hS.later bb
 replace qa:=qa.later bb
 replace hA:=hA.on bb
 replace oT:=oT.on bb
 replace GD:=hide' (GD.out.below bb)
 replace bel:=bel.trans (bb.mono bel.size)
 clear bb
 have k2:=n1.seg
 clear n1
 go_wp2_with fail
 refine (GB.out _ p q p2 oT k2).mono ?_
 rintro e w3 ⟨rfl,b1⟩
 have bb:=b1
 replace hS:=hS.later bb
 replace qa:=qa.later bb
 replace k2:=k2.later bb
 replace hA:=hA.on bb
 replace oT:=oT.on bb
 replace GD:=hide' (GD.out.below bb)
 replace bel:=bel.trans (bb.mono bel.size)
 clear bb
 clear b1
 have qa_0:=qa.cell 0
 have qa_1:=qa.cell 1
 have qa_2:=qa.cell 2
 simp only [List.getElem?_toArray,List.getElem?_cons_zero,List.getElem?_cons_succ] at qa_0 qa_1 qa_2
 have lqxqa:=qa.lt
 have bb:=below_alloc (w:=w3) (.cells #[.bool false,.slice none 0 0,.slice none 0 0] 27)
 replace hS:=hS.later bb
 replace qa:=qa.later bb
 replace k2:=k2.later bb
 replace hA:=hA.on bb
 replace oT:=oT.on bb
 replace GD:=hide' (GD.out.below bb)
 replace bel:=bel.trans (bb.mono bel.size)
 clear bb
 have qx:=Blk.new w3 #[.bool false,.slice none 0 0,.slice none 0 0] 27
 go_wp2_with fail
 clear qa_0 qa_1 qa_2
 obtain ⟨wB,hW⟩:∃ W,(w3.alloc (.cells #[.bool false,.slice none 0 0,.slice none 0 0] 27))=W:=⟨_,rfl⟩
 rw [hW] at bel hS qa k2 qx hA oT GD ⊢
 clear hW
 refine (GV.out _ hA hS).mono ?_
 rintro e w4 ⟨rfl,b1⟩
 have bb:=b1
 replace hS:=hS.later bb
 replace qa:=qa.later bb
 replace k2:=k2.later bb
 replace qx:=qx.later bb
 replace hA:=hA.on bb
 replace oT:=oT.on bb
 replace GD:=hide' (GD.out.below bb)
 replace bel:=bel.trans (bb.mono bel.size)
 clear bb
 clear b1
 have qx_0:=qx.cell 0
 have qx_1:=qx.cell 1
 have qx_2:=qx.cell 2
 simp only [List.getElem?_toArray,List.getElem?_cons_zero,List.getElem?_cons_succ] at qx_0 qx_1 qx_2
 have lqyqa:=qa.lt
 have lqyqx:=qx.lt
 have bb:=below_alloc (w:=w4) (.cells #[.bool false,.slice none 0 0,.slice none 0 0] 27)
 replace hS:=hS.later bb
 replace qa:=qa.later bb
 replace k2:=k2.later bb
 replace qx:=qx.later bb
 replace hA:=hA.on bb
 replace oT:=oT.on bb
 replace GD:=hide' (GD.out.below bb)
 replace bel:=bel.trans (bb.mono bel.size)
 clear bb
 have qy:=Blk.new w4 #[.bool false,.slice none 0 0,.slice none 0 0] 27
 go_wp2_with fail
 clear qx_0 qx_1 qx_2
 obtain ⟨wY,hW⟩:∃ W,(w4.alloc (.cells #[.bool false,.slice none 0 0,.slice none 0 0] 27))=W:=⟨_,rfl⟩
 rw [hW] at bel hS qa k2 qx qy hA oT GD ⊢
 clear hW
 refine (none_is _).mono ?_
 rintro e w5 ⟨rfl,b1⟩
 have bb:=b1
 replace hS:=hS.later bb
 replace qa:=qa.later bb
 replace k2:=k2.later bb
 replace qx:=qx.later bb
 replace qy:=qy.later bb
 replace hA:=hA.on bb
 replace oT:=oT.on bb
 replace GD:=hide' (GD.out.below bb)
 replace bel:=bel.trans (bb.mono bel.size)
 clear bb
 clear b1
 go_wp2_with fail
 refine (half_is _ GD.out).mono ?_
 rintro e w6 ⟨rfl,b1⟩
 have bb:=b1
 replace hS:=hS.later bb
 replace qa:=qa.later bb
 replace k2:=k2.later bb
 replace qx:=qx.later bb
 replace qy:=qy.later bb
 replace hA:=hA.on bb
 replace oT:=oT.on bb
 replace GD:=hide' (GD.out.below bb)
 replace bel:=bel.trans (bb.mono bel.size)
 clear bb
 clear b1
 go_wp2
 go_ret
 exact ⟨rfl,bel⟩
set_option maxHeartbeats 8000000 in
set_option maxRecDepth 100000 in
theorem walk1 (A:RatV) (a:Option Addr) (n c M:Nat) (w:World) (hA:A.ok w) (hn:A.n≤1048576∧A.m≤1048576) (hc:n≤c) (hm:n≤1048576) (hS:Seg w a M n) (hDg:Digits w) (h0:M≠0) :
  Calls Tryz.prog 5 #[.agg #[.bool A.s,.slice A.a A.n A.c,.slice A.b A.m A.e],.slice a n c] w fun e w'=>e=.returned (.bool true)∧Below w.heap.size w w':=by
 have GT:=hide' (fun w' k=>twinQ A w' k)
 have GA:=hide' (fun w' k=>lnat_any a n c M w' (by omega) k)
 have GB:=hide' (fun w' p q p2 (k1:(twR A p q).ok w') (k2:Seg w' p2 M n)=>(Best_is (twR A p q) p2 n n M w' k1 ⟨by show A.n≤_;omega,by show A.m≤_;omega⟩ (Nat.le_refl _) (by omega) k2).mono (fun e w2 h=>(show ∃ (b:Rat) (pb qb:Option Addr),Nrs A.val M b∧sz 2000000 b∧e=.returned (.tuple #[.agg #[.bool (ng b.num),.slice pb (ln (am b.num)) (ln (am b.num)),.slice qb (ln b.den) (ln b.den)],.int .i64 0])∧Below w'.heap.size w' w2∧(nR b pb qb).ok w2 by rcases h with ⟨h,_⟩ | ⟨_,h⟩ <;> first | exact h | exact absurd h h0)))
 have GV:=hide' (fun w' (k1:A.ok w') (k2:Seg w' a M n)=>(vBest_is A a n c M w' k1 hn hm k2).mono (fun e w2 h=>(show ∃ (b:Rat) (pb qb:Option Addr),Nrs A.val M b∧sz 2000000 b∧e=.returned (.tuple #[.agg #[.bool (ng b.num),.slice pb (ln (am b.num)) (ln (am b.num)),.slice qb (ln b.den) (ln b.den)],.int .i64 0])∧Below w'.heap.size w' w2∧(nR b pb qb).ok w2 by rcases h with ⟨h,_⟩ | ⟨_,h⟩ <;> first | exact h | exact absurd h h0)))
 have GD:=hide' hDg
 clear hDg
 have bel:Below w.heap.size w w:=Below.refl _ _
 have bb:=below_alloc (w:=w) (.cells #[.bool A.s,.slice A.a A.n A.c,.slice A.b A.m A.e] 27)
 replace hS:=hS.later bb
 replace hA:=hA.on bb
 replace GD:=hide' (GD.out.below bb)
 replace bel:=bel.trans (bb.mono bel.size)
 clear bb
 have qa:=Blk.new w #[.bool A.s,.slice A.a A.n A.c,.slice A.b A.m A.e] 27
 go_enter Tryz.func5,Tryz.ntmps5
 go_wp2_with fail
 obtain ⟨W0,hW⟩:∃ W,(w.alloc (.cells #[.bool A.s,.slice A.a A.n A.c,.slice A.b A.m A.e] 27))=W:=⟨_,rfl⟩
 rw [hW] at bel hS qa hA GD ⊢
 clear hW
 refine (GT.out _ hA).mono ?_
 rintro e w1 ⟨p,q,rfl,b1,oT⟩
 have bb:=b1
 replace hS:=hS.later bb
 replace qa:=qa.later bb
 replace hA:=hA.on bb
 replace GD:=hide' (GD.out.below bb)
 replace bel:=bel.trans (bb.mono bel.size)
 clear bb
 clear b1
 go_wp2_with fail
 refine (GA.out _ hS).mono ?_
 rintro e w2 ⟨p2,rfl,n1⟩
 have bb:=n1.below
 replace hS:=hS.later bb
 replace qa:=qa.later bb
 replace hA:=hA.on bb
 replace oT:=oT.on bb
 replace GD:=hide' (GD.out.below bb)
 replace bel:=bel.trans (bb.mono bel.size)
 clear bb
 have k2:=n1.seg
 clear n1
 go_wp2_with fail
 refine (GB.out _ p q p2 oT k2).mono ?_
 rintro e w3 ⟨b,pB,qB,hN,hz,rfl,b1,ob⟩
 have bb:=b1
 replace hS:=hS.later bb
 replace qa:=qa.later bb
 replace k2:=k2.later bb
 replace hA:=hA.on bb
 replace oT:=oT.on bb
 replace GD:=hide' (GD.out.below bb)
 replace bel:=bel.trans (bb.mono bel.size)
 clear bb
 clear b1
 have qa_0:=qa.cell 0
 have qa_1:=qa.cell 1
 have qa_2:=qa.cell 2
 simp only [List.getElem?_toArray,List.getElem?_cons_zero,List.getElem?_cons_succ] at qa_0 qa_1 qa_2
 have lqxqa:=qa.lt
 have bb:=below_alloc (w:=w3) (.cells #[.bool (ng b.num),.slice pB (ln (am b.num)) (ln (am b.num)),.slice qB (ln b.den) (ln b.den)] 27)
 replace hS:=hS.later bb
 replace qa:=qa.later bb
 replace k2:=k2.later bb
 replace hA:=hA.on bb
 replace oT:=oT.on bb
 replace ob:=ob.on bb
 replace GD:=hide' (GD.out.below bb)
 replace bel:=bel.trans (bb.mono bel.size)
 clear bb
 have qx:=Blk.new w3 #[.bool (ng b.num),.slice pB (ln (am b.num)) (ln (am b.num)),.slice qB (ln b.den) (ln b.den)] 27
 go_wp2_with fail
 clear qa_0 qa_1 qa_2
 obtain ⟨wB,hW⟩:∃ W,(w3.alloc (.cells #[.bool (ng b.num),.slice pB (ln (am b.num)) (ln (am b.num)),.slice qB (ln b.den) (ln b.den)] 27))=W:=⟨_,rfl⟩
 rw [hW] at bel hS qa k2 qx hA oT ob GD ⊢
 clear hW
 refine (GV.out _ hA hS).mono ?_
 rintro e w4 ⟨b2,pC9,qC,hN2,hz2,rfl,b1,oc⟩
 have bb:=b1
 replace hS:=hS.later bb
 replace qa:=qa.later bb
 replace k2:=k2.later bb
 replace qx:=qx.later bb
 replace hA:=hA.on bb
 replace oT:=oT.on bb
 replace ob:=ob.on bb
 replace GD:=hide' (GD.out.below bb)
 replace bel:=bel.trans (bb.mono bel.size)
 clear bb
 clear b1
 obtain rfl:b=b2:=hN.uniq hN2
 have qx_0:=qx.cell 0
 have qx_1:=qx.cell 1
 have qx_2:=qx.cell 2
 simp only [List.getElem?_toArray,List.getElem?_cons_zero,List.getElem?_cons_succ] at qx_0 qx_1 qx_2
 have lqyqa:=qa.lt
 have lqyqx:=qx.lt
 have bb:=below_alloc (w:=w4) (.cells #[.bool (ng b.num),.slice pC9 (ln (am b.num)) (ln (am b.num)),.slice qC (ln b.den) (ln b.den)] 27)
 replace hS:=hS.later bb
 replace qa:=qa.later bb
 replace k2:=k2.later bb
 replace qx:=qx.later bb
 replace hA:=hA.on bb
 replace oT:=oT.on bb
 replace ob:=ob.on bb
 replace oc:=oc.on bb
 replace GD:=hide' (GD.out.below bb)
 replace bel:=bel.trans (bb.mono bel.size)
 clear bb
 have qy:=Blk.new w4 #[.bool (ng b.num),.slice pC9 (ln (am b.num)) (ln (am b.num)),.slice qC (ln b.den) (ln b.den)] 27
 go_wp2_with fail
 clear qx_0 qx_1 qx_2
 obtain ⟨wY,hW⟩:∃ W,(w4.alloc (.cells #[.bool (ng b.num),.slice pC9 (ln (am b.num)) (ln (am b.num)),.slice qC (ln b.den) (ln b.den)] 27))=W:=⟨_,rfl⟩
 rw [hW] at bel hS qa k2 qx qy hA oT ob oc GD ⊢
 clear hW
 refine (sameQ b pB qB pC9 qC _ ob oc).mono ?_
 rintro e w5 ⟨rfl,b1⟩
 have bb:=b1
 replace hS:=hS.later bb
 replace qa:=qa.later bb
 replace k2:=k2.later bb
 replace qx:=qx.later bb
 replace qy:=qy.later bb
 replace hA:=hA.on bb
 replace oT:=oT.on bb
 replace ob:=ob.on bb
 replace oc:=oc.on bb
 replace GD:=hide' (GD.out.below bb)
 replace bel:=bel.trans (bb.mono bel.size)
 clear bb
 clear b1
 go_wp2_with fail
 refine (half_is _ GD.out).mono ?_
 rintro e w6 ⟨rfl,b1⟩
 have bb:=b1
 replace hS:=hS.later bb
 replace qa:=qa.later bb
 replace k2:=k2.later bb
 replace qx:=qx.later bb
 replace qy:=qy.later bb
 replace hA:=hA.on bb
 replace oT:=oT.on bb
 replace ob:=ob.on bb
 replace oc:=oc.on bb
 replace GD:=hide' (GD.out.below bb)
 replace bel:=bel.trans (bb.mono bel.size)
 clear bb
 clear b1
 go_wp2
 go_ret
 exact ⟨rfl,bel⟩
theorem walk (s0:Bool) (a0:Option Addr) (n0 c0 X0:Nat) (b0:Option Addr) (m0 d0 Y0:Nat) (a:Option Addr) (n c M:Nat) (w:World) (hc0:n0≤c0) (hm0:n0≤1048576) (hS0:Seg w a0 X0 n0) (hd0:m0≤d0) (hk0:m0≤1048576) (hT0:Seg w b0 Y0 m0) (hS:Seg w a M n) (hc:n≤c) (hm:n≤1048576) (hDg:Digits w) :
  Calls Tryz.prog 5 #[Value.agg #[Value.bool s0,Value.slice a0 n0 c0,Value.slice b0 m0 d0],.slice a n c] w fun e w'=>e=.returned (.bool true)∧Below w.heap.size w w':=by
 by_cases h0:M=0
 ·exact walk0 (⟨s0,a0,n0,c0,X0,b0,m0,d0,Y0⟩:RatV) a n c M w ⟨hS0,hc0,by show n0≤_;omega,hT0,hd0,by show m0≤_;omega⟩ ⟨hm0,hk0⟩ hc hm hS hDg h0
 ·exact walk1 (⟨s0,a0,n0,c0,X0,b0,m0,d0,Y0⟩:RatV) a n c M w ⟨hS0,hc0,by show n0≤_;omega,hT0,hd0,by show m0≤_;omega⟩ ⟨hm0,hk0⟩ hc hm hS hDg h0
end Go.Proofs.YtejlnodillnoaaaGreatDoor.ratioNearest
namespace Go.Proofs.YtejlnodillnoaaaGreatDoor.ratioNearest
open Go.ChangeShapes Go.WideShapes Go.ChangeAt Go.RowKit Go.Proofs.YtejlnodillnoaaaGreatDoor
set_option linter.unusedVariables false
theorem gTab : Tryz.prog.globalNamed "fulcrum/nat.digits" = some 1 := by kernel_rfl
theorem gTabType:(Tryz.prog.globals[1]?).map (·.type)=some 142:=by kernel_rfl
theorem cellsA:Tryz.prog.cellsOf 142=16:=by kernel_rfl
theorem cells8:Tryz.prog.cellsOf 5=1:=by kernel_rfl
theorem table {W : World} (h : laidMetH Tryz.prog Rows.ratioNearestUptoRow.laid W) : Lib.TabIs Tryz.prog W "fulcrum/nat.digits" .u8 [48, 49, 50, 51, 52, 53, 54, 55, 56, 57, 97, 98, 99, 100, 101, 102] :=
 Lib.tabIs_of_head (rest:=[]) gTab gTabType Tryz.underlying142 Tryz.underlying5 cells8 cellsA h
theorem digits_of {W:World} (h:laidMetH Tryz.prog Rows.ratioNearestUptoRow.laid W):Digits W :=
 ⟨(table h).cell gTab 0 (by decide),(table h).cell gTab 1 (by decide),(table h).cell gTab 2 (by decide),(table h).cell gTab 3 (by decide),(table h).cell gTab 4 (by decide)⟩
set_option maxRecDepth 100000 in
theorem contract (H:Type) (enc:TypeId × Value→H) (W:World) (base:Nat) (args:Array Value) (ds gs:List (DataW H)) (before:List MemPlace)
  (hval:∀ (j:Nat) t v,Tryz.f5.params[j]?=some t→args[j]?=some v→Value.okWide Tryz.prog W .any base t v)
  (hW:DataW.Whole enc Tryz.prog Tryz.f5.params.toList Rows.ratioNearestSpec.vars false W args.toList ds gs before)
  (hsz:(DataW.weightsEach Tryz.prog (Tryz.f5.params.toList ++ Rows.ratioNearestSpec.plain.varTypes Tryz.prog) (ds ++ gs)).all (·≤reachBytes)=true) (hk:Rows.uptoSmall H (ds ++ gs)=true) (hL:laidMetH Tryz.prog Rows.ratioNearestUptoRow.laid W) :
  Calls Tryz.prog 5 args W fun e W'=>∃ v,e=.returned v∧Rows.ratioNearestSpec.post enc Tryz.prog Tryz.f5 false true false false W args v W':=by
 have hW':=hW
 obtain ⟨p,q,hA0,hV,rfl,hfz,hnd⟩:=hW
 have hA:DataW.TrodAll enc Tryz.prog W 0 (fun _=>true) true Tryz.f5.params.toList args.toList ds p:=hA0
 rw [Tryz.params5] at hA hval hsz
 obtain ⟨v0,vs0,d0,ds0,p0,q0,hargs,rfl,rfl,h0,r0⟩:=trodAll_cons hA
 obtain ⟨v1,vs1,d1,ds1,p1,q1,rfl,rfl,rfl,h1,r1⟩:=trodAll_cons r0
 obtain ⟨rfl,rfl,rfl⟩:=trodAll_nil r1
 obtain rfl:args=#[v0,v1]:=by cases args;simp_all
 obtain ⟨rfl,rfl⟩:=trodVars_none hV
 have lt0:∀ x∈p0,x.block < W.heap.size:=by obtain ⟨m,hm⟩:=h0;exact DataW.trod_lt m _ _ _ hm
 obtain ⟨rs0,ra0,rn0,rc0,rX0,rb0,rm0,re0,rY0,rfl,hS0,hc0,hb0,hT0,hd0,hk0,hu0,hv0⟩:=open_Rat (hval 0 27 v0 rfl rfl) h0 (sized_at 0 hsz rfl rfl)
 obtain ⟨a1,len1,cap1,rfl⟩:=okWide_slice Tryz.underlying23 (hval 1 23 v1 rfl rfl)
 have lt1:∀ x∈p1,x.block < W.heap.size:=by obtain ⟨m,hm⟩:=h1;exact DataW.trod_lt m _ _ _ hm
 obtain ⟨X1,hS1,hc1,hb1,hu1⟩:=open_nat Tryz.underlying23 h1 (fun elems spare h=>sized_slice hsz (j:=1) (t:=23) (e:=60) rfl (by rw [h];rfl) Tryz.underlying23)
 clear hA0
 have hbulk:=of_decide_eq_true hk
 simp only [List.append_nil,Rows.uptoBulkAll] at hbulk
 replace hb0:rn0≤1048576:=by omega
 replace hk0:rm0≤1048576:=by omega
 have hb1:len1≤1048576:=by omega
 simp only [List.append_nil] at hW'
 refine (walk rs0 ra0 rn0 rc0 rX0 rb0 rm0 re0 rY0 a1 len1 cap1 X1 W hc0 hb0 hS0 hd0 hk0 hT0 hS1 hc1 hb1 (digits_of hL)).mono fun e W' ⟨he,bel⟩=>?_
 subst he
 exact ⟨_,rfl,_,_,_,[],_,[],hW',trodAll_mk1 (shut_bool Tryz.underlying4 _),(trodAll_cons_mk (Below.trod laidOut (by kernel_rfl) (of_decide_eq_true (by kernel_rfl)) h0 bel lt0) (trodAll_cons_mk (Below.trod laidOut (by kernel_rfl) (of_decide_eq_true (by kernel_rfl)) h1 bel lt1) trodAll_mk0)),rfl,bel.frame _,fun h=>by cases h⟩
def setCells (cs:Array Value):Obj→Obj
 | .cells _ t frozen=>.cells cs t frozen
 | o=>o
set_option maxRecDepth 100000 in
noncomputable def laidWorld (os:Os):World :=
 { World.holding Tryz.prog os ⟨#[],#[],[]⟩ with heap:=((World.holding Tryz.prog os ⟨#[],#[],[]⟩).heap.modify 1 (setCells #[.int .u8 48,.int .u8 49,.int .u8 50,.int .u8 51,.int .u8 52,.int .u8 53,.int .u8 54,.int .u8 55,.int .u8 56,.int .u8 57,.int .u8 97,.int .u8 98,.int .u8 99,.int .u8 100,.int .u8 101,.int .u8 102])) }
set_option maxRecDepth 100000 in
theorem laid_met (os:Os):laidMet Tryz.prog Rows.ratioNearestUptoRow.laid ((laidWorld os).forCall (fun _ _=>0) ⟨#[],#[.agg #[.bool false,.slice none 0 0,.slice none 0 0],.slice none 0 0],[]⟩).memory :=
 laidMet_of_run' 8 (by kernel_rfl) (by kernel_rfl)
theorem reads (os:Os) {H:Type} (enc:TypeId × Value→H):∃ places,DataW.whole enc Tryz.prog ((laidWorld os).forCall (fun _ _=>0) ⟨#[],#[.agg #[.bool false,.slice none 0 0,.slice none 0 0],.slice none 0 0],[]⟩).memory Tryz.f5.params.toList Rows.ratioNearestSpec.vars false [Value.agg #[.bool false,.slice none 0 0,.slice none 0 0],Value.slice none 0 0] 8=some ([.agg [.agg [.lit (.bool false),.nil],.nil],.nil],[],places) :=
 ⟨[],by kernel_rfl⟩
set_option maxRecDepth 100000 in
theorem liftedUpto (os:Os) (started:os.Started) (H:Type) (enc:TypeId × Value→H) (F:Stop.Interp) :
  ReturnsInHanded {} Tryz.checked os 5 .any ((Rows.OpenSpec.upto Rows.ratioNearestSpec).preRow enc Tryz.prog Tryz.f5 Rows.ratioNearestUptoRow.domain false Rows.ratioNearestUptoRow.laid) (((Rows.OpenSpec.upto Rows.ratioNearestSpec).at F).post enc Tryz.prog Tryz.f5 false true false false):=by
 obtain ⟨places,hx⟩:=reads os enc
 refine returnsInHanded_of_row (C:=Tryz.checked) (s:=Rows.OpenSpec.upto Rows.ratioNearestSpec) own started (by kernel_rfl) Tryz.func5
  (witness_row_at (enc:=enc) (C:=Tryz.checked) false (laidWorld os) #[.agg #[.bool false,.slice none 0 0,.slice none 0 0],.slice none 0 0] rfl (by kernel_rfl) (by kernel_rfl) (by kernel_rfl)
   (OpenSpec.preRow_of_cond 8 hx (by kernel_rfl) (fun k hk=>by cases hk;kernel_rfl) (by kernel_rfl) (laid_met os))) ?_
 intro W base args ds gs before hval hW _ hk hsz hL hSh _
 exact contract H enc W base args ds gs before hval hW hsz (hk _ rfl) hL
theorem saidUpto:Rows.RatioNearestUptoSaid :=
 OpenClaim.holds_of_cond 5 Tryz.f5 rfl rfl rfl rfl rfl rfl rfl ⟨rfl,rfl,rfl,rfl,rfl⟩ rfl rfl rfl rfl rfl (by kernel_rfl) Tryz.func5 (by kernel_rfl)
  (of_decide_eq_true (by kernel_rfl)) (by unfold Func.isWrapper;first | (rw [if_pos (by decide +kernel)];kernel_rfl) | (rw [if_neg (by decide +kernel)];exact ⟨rfl,rfl⟩))
  (fun os started H enc _ F=>by rw [OpenClaim.pre_eq_preRow];exact liftedUpto os started H enc F)
theorem plain (f : FuncId) (fn : Func) (hf : Tryz.pinned.checked.prog.funcNamed "fulcrum/fulcrumlaw03.RatioNearest" = some f) (hfn : Tryz.pinned.checked.prog.funcs[f]? = some fn) :
  false=Tryz.pinned.checked.prog.looks []∧∀ (j:Nat) t,fn.params[j]?=some t→Tryz.pinned.checked.prog.wantsStandIn t=false:=by
 obtain rfl : f = 5 := Option.some.inj ((show Tryz.prog.funcNamed "fulcrum/fulcrumlaw03.RatioNearest" = some 5 by kernel_rfl).symm.trans hf) |>.symm
 obtain rfl:fn=Tryz.f5:=(Option.some.inj (Tryz.func5.symm.trans hfn)).symm
 refine ⟨by kernel_rfl,fun j t ht=>?_⟩
 rw [Tryz.params5] at ht
 have hm:=Array.mem_of_getElem? ht
 simp only [List.mem_toArray,List.mem_cons,List.not_mem_nil,or_false] at hm
 rcases hm with rfl | rfl
 ·exact (show Tryz.prog.wantsStandIn 27=false by kernel_rfl)
 ·exact (show Tryz.prog.wantsStandIn 23=false by kernel_rfl)
theorem cardUpto:Rows.RatioNearestUptoCardSaid :=
 Claim7.holds_tied_plain_at .later [] _ _ _ _ saidUpto (fun _ h=>by cases h) (by kernel_rfl) (fun _ h=>by cases h) ratioNearestUpto_row_tie rfl ⟨rfl,rfl⟩ (by kernel_rfl) rfl plain (by kernel_rfl)
end Go.Proofs.YtejlnodillnoaaaGreatDoor.ratioNearest
namespace Go.Proofs.YtejlnodillnoaaaGreatDoor
theorem ratioNearest_holds:Rows.RatioNearestUptoCardSaid:=ratioNearest.cardUpto
#print axioms ratioNearest_holds
end Go.Proofs.YtejlnodillnoaaaGreatDoor
