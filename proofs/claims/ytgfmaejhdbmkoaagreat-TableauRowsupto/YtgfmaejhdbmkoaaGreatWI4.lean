import Derived.Test.YtgfmaejhdbmkoaaGreatW6
import Derived.Test.YtgfmaejhdbmkoaaGreatWI1
import Derived.Test.YtgfmaejhdbmkoaaGreatW13
set_option linter.unusedSimpArgs false
namespace Go.Proofs.YtgfmaejhdbmkoaaGreat
open Go.RowKit
set_option linter.unusedVariables false
def MulOk (N:Nat):Prop:=∀ (b off L cap b1 o1 n cap1 X b2 o2 m cap2 Y:Nat) (w:World),0 < n→0 < m→n+m≤N→L=n+m→L≤70368744177664→L≤cap→n≤cap1→m≤cap2→b1≠b→b2≠b→Row w b →
 Seg w (some ⟨b,off,none⟩) 0 L→Seg w (some ⟨b1,o1,none⟩) X n→Seg w (some ⟨b2,o2,none⟩) Y m →
 Calls Tryz.prog 153 #[.slice (some ⟨b,off,none⟩) L cap,.slice (some ⟨b1,o1,none⟩) n cap1,.slice (some ⟨b2,o2,none⟩) m cap2] w fun e w'=>e=.returned (.tuple #[])∧Wr b off (off+L) w w'∧Seg w' (some ⟨b,off,none⟩) (X*Y) L
theorem xJ8 {b1 o1 b:Nat} (h:b1≠b):∀ o,some (Addr.mk b1 o1 none)≠some (Addr.mk b o none):=by
 intro o e;simp only [Option.some.injEq,Addr.mk.injEq] at e;exact h e.1
theorem mul_lt_pow {X Y n m:Nat} (hX:X < BB ^ n) (hY:Y < BB ^ m):X*Y < BB ^ (n+m):=by
 rw [Nat.pow_add]
 by_cases h:X=0
 ·subst h;simp;exact Nat.mul_pos (BBp n) (BBp m)
 ·exact Nat.mul_lt_mul_of_lt_of_le hX (Nat.le_of_lt hY) (Nat.lt_of_le_of_lt (Nat.zero_le _) hY)
set_option maxHeartbeats 1000000 in
theorem product_of {N:Nat} (ok:MulOk N) (b1 o1 n cap1 X b2 o2 m cap2 Y:Nat) (w:World) (hn:0 < n) (hm:0 < m) (hN:n+m≤N) (hL:n+m≤70368744177664) (hc1:n≤cap1) (hc2:m≤cap2) (hX:Seg w (some ⟨b1,o1,none⟩) X n) (hY:Seg w (some ⟨b2,o2,none⟩) Y m) :
  Calls Tryz.prog 143 #[.slice (some ⟨b1,o1,none⟩) n cap1,.slice (some ⟨b2,o2,none⟩) m cap2] w fun e w'=>∃ ao,e=.returned (.slice ao (n+m) (n+m))∧New w w' ao (X*Y) (n+m):=by
 have h1:=hX.lt hn
 have h2:=hY.lt hm
 go_enter Tryz.func143,Tryz.ntmps143
 go_wp2_with (at_make;refine mk_law _ rfl _ _ rfl _ (n+m) rfl rfl (by go_num) hL ?_;intro w1 hnew hrow)
 refine (ok _ _ (n+m) _ _ _ n _ X _ _ m _ Y _ hn hm hN rfl hL (Nat.le_refl _) hc1 hc2 (by omega) (by omega) hrow hnew.seg (hX.below hnew.below (Nat.le_refl _)) (hY.below hnew.below (Nat.le_refl _))).mono ?_
 rintro e w2 ⟨rfl,hwr,hseg⟩
 go_wp2
 go_ret
 exact ⟨_,rfl,hseg,hnew.below.trans (hwr.below (Nat.le_refl _) hnew.below.size),fun _=>⟨_,_,rfl,Nat.le_refl _,hwr.row hrow⟩⟩
set_option maxHeartbeats 1000000 in
theorem halvesSum_any (b1 o1 n cap1 X h:Nat) (w:World) (hh:0 < h) (hhn:h < n) (hn:n≤2*h) (hL:n≤70368744177663) (hc1:n≤cap1) (hX:Seg w (some ⟨b1,o1,none⟩) X n) :
  Calls Tryz.prog 165 #[.slice (some ⟨b1,o1,none⟩) n cap1,.int .i64 h] w fun e w'=>∃ ao,e=.returned (.slice ao (h+1) (h+1))∧New w w' ao (X % BB ^ h+X / BB ^ h) (h+1):=by
 have h1:=hX.lt (by omega)
 have hsa:=sl_h (some ⟨b1,o1,none⟩) n cap1 h (h:Int) rfl (by omega)
 have hsb:=sl_l b1 o1 n cap1 h (h:Int) rfl (by omega) (by omega)
 have hlo:=hX.take h (by omega)
 have hhi:=hX.drop h (by omega)
 go_enter Tryz.func165,Tryz.ntmps165
 go_wp2_with (first | (at_make;refine mk_law _ rfl _ _ rfl _ (h+1) rfl rfl (by go_num) (by omega) ?_;intro w1 hnew hrow) | (with_reducible refine at_copy ?_;refine copy_law rfl _ _ rfl w.heap.size 0 (h+1) _ _ h _ rfl rfl (X % BB ^ h) 0 hrow hnew.seg (hlo.below hnew.below (Nat.le_refl _)) (by omega) ?_;intro w2 hwr hseg))
 rw [mix_nought hlo.1] at hseg
 have hB2:Below w.heap.size w w2:=hnew.below.trans (hwr.below (Nat.le_refl _) hnew.below.size)
 refine (addInto_any _ _ _ _ (X % BB ^ h) _ _ _ (X / BB ^ h) _ (by omega) (by omega) (hwr.row hrow) hseg (hhi.below hB2 (Nat.le_refl _)) (xJ8 (by omega))).mono ?_
 rintro e w3 ⟨rfl,hwr3,hseg3⟩
 go_wp2
 go_ret
 have hsum:(X % BB ^ h+X / BB ^ h) % BB ^ (h+1)=X % BB ^ h+X / BB ^ h:=by
  rw [Nat.mod_eq_of_lt]
  have a1:=hlo.1
  have a2:X / BB ^ h < BB ^ h:=Nat.lt_of_lt_of_le hhi.1 (xX4 (by omega))
  generalize X % BB ^ h=lo at *
  generalize X / BB ^ h=hi at *
  rw [xQ7,BB_eq]
  rw [BB_eq] at a1 a2
  omega
 rw [hsum] at hseg3
 exact ⟨_,rfl,hseg3,hB2.trans (hwr3.below (Nat.le_refl _) hB2.size),fun _=>⟨_,_,rfl,Nat.le_refl _,hwr3.row (hwr.row hrow)⟩⟩
theorem kara {X Y h:Nat}:X % BB ^ h*(Y % BB ^ h)+X / BB ^ h*(Y / BB ^ h)*BB ^ (2*h)+(X % BB ^ h*(Y / BB ^ h)+X / BB ^ h*(Y % BB ^ h))*BB ^ h=X*Y:=by
 have e1:=xZ8 X h
 have e2:=xZ8 Y h
 have e3:BB ^ (2*h)=BB ^ h*BB ^ h:=by rw [Nat.two_mul,Nat.pow_add]
 rw [e3]
 generalize X % BB ^ h=x0 at *
 generalize X / BB ^ h=x1 at *
 generalize Y % BB ^ h=y0 at *
 generalize Y / BB ^ h=y1 at *
 generalize BB ^ h=p at *
 subst e1 e2
 simp only [Nat.add_mul,Nat.mul_add]
 have a1:x1*p*(y1*p)=x1*y1*(p*p):=by simp only [Nat.mul_comm,Nat.mul_left_comm]
 have a2:x1*p*y0=x1*y0*p:=Nat.mul_right_comm _ _ _
 have a3:x0*(y1*p)=x0*y1*p:=(Nat.mul_assoc _ _ _).symm
 rw [a1,a2,a3]
 omega
theorem kara_mid {x0 x1 y0 y1:Nat}:(x0+x1)*(y0+y1)=x0*y0+x1*y1+(x0*y1+x1*y0):=by
 simp only [Nat.add_mul,Nat.mul_add];omega
theorem wrap64_small {a:Int} (h1:0≤a) (h2:a≤9223372036854775807):wrap64 a=a:=by unfold wrap64;omega
theorem wrap_i64_small {a:Int} (h1:0≤a) (h2:a≤9223372036854775807):IntKind.i64.wrap a=a:=by simp [IntKind.wrap,IntKind.bits,IntKind.signed];omega
theorem mul_add_mod_of_lt' {a b k:Nat} (h:b < BB ^ k):(a*BB ^ k+b) % BB ^ k=b:=by
 rw [Nat.mul_comm,Nat.mul_add_mod,Nat.mod_eq_of_lt h]
theorem mul_add_div_of_lt' {a b k:Nat} (h:b < BB ^ k):(a*BB ^ k+b) / BB ^ k=a:=by
 rw [Nat.mul_comm,Nat.mul_add_div (BBp k),Nat.div_eq_of_lt h,Nat.add_zero]
set_option maxHeartbeats 4000000 in
theorem mulByHalves_of {N:Nat} (ok:MulOk N) (b off L cap b1 o1 n cap1 X b2 o2 m cap2 Y h:Nat) (w:World) (hh:32≤h) (hhm:h < m) (hmn:m≤n) (hn:n≤2*h) (hn2:2*h≤n+1) (hN:n+m≤N+1) (hL:L=n+m) (hLL:L≤70368744177664) (hcap:L≤cap) (hc1:n≤cap1) (hc2:m≤cap2)
  (hb1:b1≠b) (hb2:b2≠b) (hrow:Row w b) (hS:Seg w (some ⟨b,off,none⟩) 0 L) (hX:Seg w (some ⟨b1,o1,none⟩) X n) (hY:Seg w (some ⟨b2,o2,none⟩) Y m) :
  Calls Tryz.prog 162 #[.slice (some ⟨b,off,none⟩) L cap,.slice (some ⟨b1,o1,none⟩) n cap1,.slice (some ⟨b2,o2,none⟩) m cap2,.int .i64 h] w fun e w'=>e=.returned (.tuple #[])∧Wr b off (off+L) w w'∧Seg w' (some ⟨b,off,none⟩) (X*Y) L:=by
 have hbw:=hrow.lt
 have hLa:L≤n+m:=by omega
 have hLb:n+m≤L:=by omega
 clear hL
 have s1:=sl_h (some ⟨b,off,none⟩) L cap (2*h) (2*(h:Int)) (by omega) (by omega)
 have s2:=sl_h (some ⟨b1,o1,none⟩) n cap1 h (h:Int) rfl (by omega)
 have s3:=sl_h (some ⟨b2,o2,none⟩) m cap2 h (h:Int) rfl (by omega)
 have s4:=sl_l b off L cap (2*h) (2*(h:Int)) (by omega) (by omega) (by omega)
 have s5:=sl_l b1 o1 n cap1 h (h:Int) rfl (by omega) (by omega)
 have s6:=sl_l b2 o2 m cap2 h (h:Int) rfl (by omega) (by omega)
 have s7:=sl_l b off L cap h (h:Int) rfl (by omega) (by omega)
 have v1:wrap64 (2*(h:Int))=2*(h:Int):=wrap64_small (by omega) (by omega)
 have v2:IntKind.i64.wrap (2*(h:Int))=2*(h:Int):=wrap_i64_small (by omega) (by omega)
 have hx0:=hX.take h (by omega)
 have hx1:=hX.drop h (by omega)
 have hy0:=hY.take h (by omega)
 have hy1:=hY.drop h (by omega)
 have OK1:∀ W,Dr w W→Calls Tryz.prog 153 #[.slice (some ⟨b,off,none⟩) (2*h) cap,.slice (some ⟨b1,o1,none⟩) h cap1,.slice (some ⟨b2,o2,none⟩) h cap2] W fun e w'=>e=.returned (.tuple #[])∧Wr b off (off+2*h) W w'∧Seg w' (some ⟨b,off,none⟩) (X % BB ^ h*(Y % BB ^ h)) (2*h) :=
  fun W hW=>ok b off (2*h) cap b1 o1 h cap1 _ b2 o2 h cap2 _ W (by omega) (by omega) (by omega) (by omega) (by omega) (by omega) (by omega) (by omega) hb1 hb2 (hrow.dr hW) (by have:=(hS.dr hW).take (2*h) (by omega);rwa [Nat.zero_mod] at this) (hx0.dr hW) (hy0.dr hW)
 go_enter Tryz.func162,Tryz.ntmps162
 go_wp2_with fail
 go_region_with (go_at_call 153;refine (OK1 _ ?_).mono ?_;exact (Dr.refl _).drew;rintro e w1 ⟨rfl,hwA,hsA⟩)
 clear OK1
 have hA:Wr b off (off+L) w w1:=(Wr.drew (Wr.refl _ _ _ _)).trans (hwA.mono (by omega) (by omega))
 have hS1:Seg w1 (some ⟨b,off,none⟩) (X % BB ^ h*(Y % BB ^ h)) L:=by
  have:=(hS.drew).splice (i:=0) (by rw [Nat.add_zero];exact hwA) (by rw [Nat.add_zero];exact hsA) (by omega) (by omega)
  rwa [show put 0 0 (2*h) (X % BB ^ h*(Y % BB ^ h))=X % BB ^ h*(Y % BB ^ h) from put_zero_low (BBp _) hsA.1] at this
 have hX1:=hX.wr hA (xJ8 hb1)
 have hY1:=hY.wr hA (xJ8 hb2)
 have OK2:∀ W,Dr w1 W→Calls Tryz.prog 153 #[.slice (some ⟨b,off+2*h,none⟩) (L - 2*h) (cap - 2*h),.slice (some ⟨b1,o1+h,none⟩) (n - h) (cap1 - h),.slice (some ⟨b2,o2+h,none⟩) (m - h) (cap2 - h)] W fun e w'=>e=.returned (.tuple #[])∧Wr b (off+2*h) (off+2*h+(L - 2*h)) W w'∧Seg w' (some ⟨b,off+2*h,none⟩) (X / BB ^ h*(Y / BB ^ h)) (L - 2*h) :=
  fun W hW=>ok b (off+2*h) (L - 2*h) (cap - 2*h) b1 (o1+h) (n - h) (cap1 - h) _ b2 (o2+h) (m - h) (cap2 - h) _ W (by omega) (by omega) (by omega) (by omega) (by omega) (by omega) (by omega) (by omega) hb1 hb2 ((hA.row hrow).dr hW)
   (by have:=(hS1.dr hW).drop (2*h) (by omega);rwa [Nat.div_eq_of_lt hsA.1] at this) ((hX1.drop h (by omega)).dr hW) ((hY1.drop h (by omega)).dr hW)
 go_wp2_with fail
 go_region_with (go_at_call 153;refine (OK2 _ ?_).mono ?_;exact (Dr.refl _).drew;rintro e w2 ⟨rfl,hwB,hsB⟩)
 clear OK2
 have hB:Wr b off (off+L) w1 w2:=(Wr.drew (Wr.refl _ _ _ _)).trans (hwB.mono (by omega) (by omega))
 have hS2:Seg w2 (some ⟨b,off,none⟩) (X / BB ^ h*(Y / BB ^ h)*BB ^ (2*h)+X % BB ^ h*(Y % BB ^ h)) L:=by
  have:=(hS1.drew).splice (i:=2*h) hwB hsB (by omega) (by omega)
  rw [put_high (by rw [Nat.add_sub_cancel' (by omega)];exact hS1.1),Nat.mod_eq_of_lt hsA.1] at this
  exact this
 have hX2:=hX1.wr hB (xJ8 hb1)
 have hY2:=hY1.wr hB (xJ8 hb2)
 clear hX1 hY1
 go_wp2_with fail
 refine (halvesSum_any _ _ _ _ X h _ (by omega) (by omega) hn (by omega) hc1 hX2).mono ?_
 rintro e w3 ⟨a3,rfl,hn3⟩
 go_wp2_with fail
 refine (halvesSum_any _ _ _ _ Y h _ (by omega) (by omega) (by omega) (by omega) hc2 (hY2.below hn3.below (Nat.le_refl _))).mono ?_
 rintro e w4 ⟨a4,rfl,hn4⟩
 obtain ⟨b3,o3,rfl,hf3,hr3⟩:=hn3.fresh (by omega)
 obtain ⟨b4,o4,rfl,hf4,hr4⟩:=hn4.fresh (by omega)
 go_wp2_with fail
 refine (product_of ok _ _ _ _ _ _ _ _ _ _ _ (by omega) (by omega) (by omega) (by omega) (by omega) (by omega) (hn3.seg.below hn4.below (Nat.le_refl _)) hn4.seg).mono ?_
 rintro e w5 ⟨a5,rfl,hn5⟩
 obtain ⟨b5,o5,rfl,hf5,hr5⟩:=hn5.fresh (by omega)
 rw [kara_mid] at hn5
 have hB25:Below w2.heap.size w2 w5:=hn3.below.trans ((hn4.below.mono hn3.below.size).trans (hn5.below.mono (Nat.le_trans hn3.below.size hn4.below.size)))
 have hbw2:b < w2.heap.size:=Nat.lt_of_lt_of_le hbw (Nat.le_trans hA.size hB.size)
 have hf5':w2.heap.size≤b5:=Nat.le_trans (Nat.le_trans hn3.below.size hn4.below.size) hf5
 have hS5:=hS2.below hB25 (Nat.le_refl _)
 have hlo5:Seg w5 (some ⟨b,off,none⟩) (X % BB ^ h*(Y % BB ^ h)) (2*h):=by
  have:=hS5.take (2*h) (by omega)
  rwa [mul_add_mod_of_lt' hsA.1] at this
 go_wp2_with fail
 refine (subFrom_any _ _ _ _ _ _ _ _ _ _ (by omega) (by omega) hr5 hn5.seg hlo5 (xJ8 (by omega)) (by omega)).mono ?_
 rintro e w6 ⟨rfl,hwC,hsC⟩
 have hS6:=hS5.wr hwC (xJ8 (by omega))
 have hhi6:Seg w6 (some ⟨b,off+2*h,none⟩) (X / BB ^ h*(Y / BB ^ h)) (L - 2*h):=by
  have:=hS6.drop (2*h) (by omega)
  rwa [mul_add_div_of_lt' hsA.1] at this
 go_wp2_with fail
 refine (subFrom_any _ _ _ _ _ _ _ _ _ _ (by omega) (by omega) (hwC.row hr5) hsC hhi6 (xJ8 (by omega)) (by omega)).mono ?_
 rintro e w7 ⟨rfl,hwD,hsD⟩
 have hS7:=hS6.wr hwD (xJ8 (by omega))
 obtain ⟨Mid,hMid⟩:∃ M,M=X % BB ^ h*(Y / BB ^ h)+X / BB ^ h*(Y % BB ^ h):=⟨_,rfl⟩
 rw [←hMid] at hsD
 have hsD':Seg w7 (some ⟨b5,o5,none⟩) Mid (h+1+(h+1)):=by
  rwa [show X % BB ^ h*(Y % BB ^ h)+X / BB ^ h*(Y / BB ^ h)+Mid - X % BB ^ h*(Y % BB ^ h) - X / BB ^ h*(Y / BB ^ h)=Mid by omega] at hsD
 have hXY:X*Y < BB ^ L:=Nat.lt_of_lt_of_le (mul_lt_pow hX.1 hY.1) (xX4 hLb)
 have hkar:=kara (X:=X) (Y:=Y) (h:=h)
 rw [←hMid] at hkar
 obtain ⟨C2,hC2⟩:∃ C,C=X / BB ^ h*(Y / BB ^ h)*BB ^ (2*h)+X % BB ^ h*(Y % BB ^ h):=⟨_,rfl⟩
 rw [←hC2] at hS7
 have hsum:(C2 / BB ^ h+Mid)*BB ^ h+C2 % BB ^ h=X*Y:=by
  have:=xZ8 C2 h
  rw [←hkar,Nat.add_mul]
  omega
 have hDlt:C2 / BB ^ h+Mid < BB ^ (L - h):=by
  have e:BB ^ L=BB ^ (L - h)*BB ^ h:=by rw [←Nat.pow_add,Nat.sub_add_cancel (by omega)]
  rw [e] at hXY
  exact Nat.lt_of_mul_lt_mul_right (a:=BB ^ h) (Nat.lt_of_le_of_lt (Nat.le.intro hsum) hXY)
 have hlnM:ln Mid≤L - h:=xQ4 (Nat.lt_of_le_of_lt (Nat.le_add_left _ _) hDlt)
 have hbw7:b5≠b:=by omega
 have hr7:Row w7 b:=(((hA.row hrow) |> hB.row).below hB25 hbw2).of_wr hwC (by omega) |>.of_wr hwD (by omega)
 have TR:∀ W,Dr w7 W→Calls Tryz.prog 139 #[.slice (some ⟨b5,o5,none⟩) (h+1+(h+1)) (h+1+(h+1))] W fun e w'=>∃ ao',e=.returned (.slice ao' (ln Mid) (ln Mid))∧W=w'∧Trm (some ⟨b5,o5,none⟩) ao' (ln Mid) :=
  fun W hW=>xX5 _ _ _ Mid W (Nat.le_refl _) (by omega) (hsD'.dr hW)
 have ADD:∀ a8 W,Dr w7 W→Trm (some ⟨b5,o5,none⟩) a8 (ln Mid)→Calls Tryz.prog 160 #[.slice (some ⟨b,off+h,none⟩) (L - h) (cap - h),.slice a8 (ln Mid) (ln Mid)] W fun e w'=>e=.returned (.tuple #[])∧Wr b (off+h) (off+h+(L - h)) W w'∧Seg w' (some ⟨b,off+h,none⟩) ((C2 / BB ^ h+Mid) % BB ^ (L - h)) (L - h) :=
  fun a8 W hW ht=>addInto_any _ _ _ _ _ _ _ _ Mid W (by omega) hlnM (hr7.dr hW) ((hS7.drop h (by omega)).dr hW) ((hsD'.dr hW).trm ht) (ht.ne (xJ8 hbw7))
 have FIN:Hid (∀ W w',Dr w7 W→Wr b (off+h) (off+h+(L - h)) W w'→Seg w' (some ⟨b,off+h,none⟩) ((C2 / BB ^ h+Mid) % BB ^ (L - h)) (L - h)→Wr b off (off+L) w w'∧Seg w' (some ⟨b,off,none⟩) (X*Y) L):=by
  intro W w' hW hw hs
  refine ⟨?_,?_⟩
  ·have hB27:Below w2.heap.size w2 w7:=hB25.trans ((hwC.below hf5' hB25.size).trans (hwD.below hf5' (Nat.le_trans hB25.size hwC.size)))
   exact hA.trans (hB.trans ((Wr.of_below hB27 hbw2).trans ((Wr.of_dr hW).trans (hw.mono (by omega) (by omega)))))
  ·rw [Nat.mod_eq_of_lt hDlt] at hs
   have:=((hS7.dr hW)).splice (i:=h) hw hs (by omega) (by omega)
   rwa [put_high (by rw [Nat.add_sub_cancel' (by omega)];exact hS7.1),hsum] at this
 clear hkar hsum hDlt hC2 hMid hXY
 go_wp2_with fail
 go_region_with (first | (go_at_call 139;refine (TR _ ?_).mono ?_;exact (Dr.refl _).drew;rintro e w8 ⟨a8,rfl,rfl,ht8⟩) | (go_at_call 160;refine (ADD _ _ ?_ ?_).mono ?_;exact (Dr.refl _).drew;exact ht8;rintro e w9 ⟨rfl,hwE,hsE⟩))
 all_goals go_wp2
 all_goals go_end0
 all_goals exact ⟨rfl,FIN.out _ _ (Dr.refl _).drew hwE hsE⟩
theorem xQ1 {p:Prop} (h:p):Hid p:=h
set_option maxHeartbeats 4000000 in
theorem mulInto_keep {N:Nat} (ok:MulOk N) (b off L cap b1 o1 n cap1 X b2 o2 m cap2 Y:Nat) (w:World) (hn:0 < n) (hm:0 < m) (hN:n+m≤N+1) (hL:L=n+m) (hLL:L≤70368744177664) (hcap:L≤cap) (hc1:n≤cap1) (hc2:m≤cap2) (hb1:b1≠b) (hb2:b2≠b) (hrow:Row w b)
  (hS:Seg w (some ⟨b,off,none⟩) 0 L) (hX:Seg w (some ⟨b1,o1,none⟩) X n) (hY:Seg w (some ⟨b2,o2,none⟩) Y m) (hnm:¬ n < m) :
  Calls Tryz.prog 153 #[.slice (some ⟨b,off,none⟩) L cap,.slice (some ⟨b1,o1,none⟩) n cap1,.slice (some ⟨b2,o2,none⟩) m cap2] w fun e w'=>e=.returned (.tuple #[])∧Wr b off (off+L) w w'∧Seg w' (some ⟨b,off,none⟩) (X*Y) L:=by
 obtain ⟨h,hh1,hh2⟩:∃ h,2*h≤n+1∧n≤2*h:=⟨(n+1) / 2,by omega,by omega⟩
 have hhalf:((n:Int)+1) / 2=(h:Int):=by omega
 have hLa:L≤n+m:=by omega
 have hLb:n+m≤L:=by omega
 have hLe:Hid (L=n+m):=hL
 clear hL
 have hbw:=hrow.lt
 by_cases h64:m < 64
 ·have hS':Seg w (some ⟨b,off,none⟩) 0 (n+m):=by rw [show n+m=L by have:=hLe.out;omega];exact hS
  have ML:Calls Tryz.prog 161 #[.slice (some ⟨b,off,none⟩) L cap,.slice (some ⟨b1,o1,none⟩) n cap1,.slice (some ⟨b2,o2,none⟩) m cap2] w fun e w'=>e=.returned (.tuple #[])∧Wr b off (off+L) w w'∧Seg w' (some ⟨b,off,none⟩) (X*Y) L:=by
   have:=mulByLimbs_any b off n cap (some ⟨b1,o1,none⟩) (some ⟨b2,o2,none⟩) cap1 X m cap2 Y w (by omega) (by omega) (by omega) hrow hS' hX hY (xJ8 hb1) (xJ8 hb2)
   rw [show n+m=L by have:=hLe.out;omega] at this
   exact this
  have HML:=xQ1 ML
  clear ML
  go_enter Tryz.func153,Tryz.ntmps153
  go_wp2_with fail
  refine HML.out.mono ?_
  rintro e w1 ⟨rfl,r1,r2⟩
  clear HML
  go_wp2
  go_end0
  exact ⟨rfl,r1,r2⟩
 ·by_cases hmh:m≤h
  ·have s1:=sl_h (some ⟨b,off,none⟩) L cap (h+m) ((h:Int)+(m:Int)) (by omega) (by omega)
   have s2:=sl_h (some ⟨b1,o1,none⟩) n cap1 h (h:Int) rfl (by omega)
   have s3:=sl_l b off L cap h (h:Int) rfl (by omega) (by omega)
   have s4:=sl_l b1 o1 n cap1 h (h:Int) rfl (by omega) (by omega)
   have hv:0≤(h:Int)+(m:Int)∧(h:Int)+(m:Int)≤9223372036854775807:=by omega
   have OK1:∀ W,Dr w W→Calls Tryz.prog 153 #[.slice (some ⟨b,off,none⟩) (h+m) cap,.slice (some ⟨b1,o1,none⟩) h cap1,.slice (some ⟨b2,o2,none⟩) m cap2] W fun e w'=>e=.returned (.tuple #[])∧Wr b off (off+(h+m)) W w'∧Seg w' (some ⟨b,off,none⟩) (X % BB ^ h*Y) (h+m) :=
    fun W hW=>ok b off (h+m) cap b1 o1 h cap1 _ b2 o2 m cap2 _ W (by omega) (by omega) (by omega) rfl (by omega) (by omega) (by omega) (by omega) hb1 hb2 (hrow.dr hW) (by have:=(hS.dr hW).take (h+m) (by omega);rwa [Nat.zero_mod] at this) ((hX.take h (by omega)).dr hW) (hY.dr hW)
   have HOK:=xQ1 OK1
   clear OK1
   go_enter Tryz.func153,Tryz.ntmps153
   go_wp2_with fail
   have v1:=wrap64_small hv.1 hv.2
   have v2:=wrap_i64_small hv.1 hv.2
   clear hv
   go_region_with (go_at_call 153;refine (HOK.out _ ?_).mono ?_;exact (Dr.refl _).drew;rintro e w1 ⟨rfl,hwA,hsA⟩)
   clear HOK v1 v2
   have hA:Wr b off (off+L) w w1:=(Wr.drew (Wr.refl _ _ _ _)).trans (hwA.mono (by omega) (by omega))
   have hS1:Seg w1 (some ⟨b,off,none⟩) (X % BB ^ h*Y) L:=by
    have:=(hS.drew).splice (i:=0) (by rw [Nat.add_zero];exact hwA) (by rw [Nat.add_zero];exact hsA) (by omega) (by omega)
    rwa [show put 0 0 (h+m) (X % BB ^ h*Y)=X % BB ^ h*Y from put_zero_low (BBp _) hsA.1] at this
   have hX1:=hX.wr hA (xJ8 hb1)
   have hY1:=hY.wr hA (xJ8 hb2)
   have hXY:X*Y < BB ^ L:=Nat.lt_of_lt_of_le (mul_lt_pow hX.1 hY.1) (xX4 (by omega))
   obtain ⟨C,hC⟩:∃ C,C=X % BB ^ h*Y:=⟨_,rfl⟩
   rw [←hC] at hS1
   obtain ⟨P,hP⟩:∃ P,P=X / BB ^ h*Y:=⟨_,rfl⟩
   have hsum:(C / BB ^ h+P)*BB ^ h+C % BB ^ h=X*Y:=by
    have e1:=xZ8 C h
    have e2:X*Y=P*BB ^ h+C:=by
     rw [hP,hC,Nat.mul_right_comm,←Nat.add_mul,←xZ8]
    rw [e2,Nat.add_mul];omega
   have hDlt:C / BB ^ h+P < BB ^ (L - h):=by
    have e:BB ^ L=BB ^ (L - h)*BB ^ h:=by rw [←Nat.pow_add,Nat.sub_add_cancel (by omega)]
    rw [e] at hXY
    exact Nat.lt_of_mul_lt_mul_right (a:=BB ^ h) (Nat.lt_of_le_of_lt (Nat.le.intro hsum) hXY)
   have hbw1:b < w1.heap.size:=Nat.lt_of_lt_of_le hbw hA.size
   have PR:∀ W,Dr w1 W→Calls Tryz.prog 143 #[.slice (some ⟨b1,o1+h,none⟩) (n - h) (cap1 - h),.slice (some ⟨b2,o2,none⟩) m cap2] W fun e w'=>∃ ao,e=.returned (.slice ao (n - h+m) (n - h+m))∧New W w' ao P (n - h+m):=by
    intro W hW
    rw [hP]
    exact product_of ok _ _ _ _ _ _ _ _ _ _ W (by omega) (by omega) (by omega) (by omega) (by omega) (by omega) ((hX1.drop h (by omega)).dr hW) (hY1.dr hW)
   have ADD:∀ a8 W W',Dr w1 W→New W W' a8 P (n - h+m)→Calls Tryz.prog 160 #[.slice (some ⟨b,off+h,none⟩) (L - h) (cap - h),.slice a8 (n - h+m) (n - h+m)] W' fun e w'=>e=.returned (.tuple #[])∧Wr b (off+h) (off+h+(L - h)) W' w'∧Seg w' (some ⟨b,off+h,none⟩) ((C / BB ^ h+P) % BB ^ (L - h)) (L - h):=by
    intro a8 W W' hW hN8
    obtain ⟨b8,o8,rfl,hf8,hr8⟩:=hN8.fresh (by omega)
    have hsz:W.heap.size=w1.heap.size:=by obtain ⟨q,rfl⟩:=hW;rfl
    exact addInto_any _ _ _ _ _ _ _ _ P W' (by omega) (by omega) (((hA.row hrow).dr hW).below hN8.below (by omega)) (((hS1.dr hW).below hN8.below (Nat.le_refl _)).drop h (by omega)) hN8.seg (xJ8 (by omega))
   have FIN:Hid (∀ a8 W W' w',Dr w1 W→New W W' a8 P (n - h+m)→Wr b (off+h) (off+h+(L - h)) W' w'→Seg w' (some ⟨b,off+h,none⟩) ((C / BB ^ h+P) % BB ^ (L - h)) (L - h)→Wr b off (off+L) w w'∧Seg w' (some ⟨b,off,none⟩) (X*Y) L):=by
    intro a8 W W' w' hW hN8 hw hs
    have hsz:W.heap.size=w1.heap.size:=by obtain ⟨q,rfl⟩:=hW;rfl
    refine ⟨hA.trans ((Wr.of_dr hW).trans ((Wr.of_below hN8.below (by omega)).trans (hw.mono (by omega) (by omega)))),?_⟩
    rw [Nat.mod_eq_of_lt hDlt] at hs
    have:=((hS1.dr hW).below hN8.below (Nat.le_refl _)).splice (i:=h) hw hs (by omega) (by omega)
    rw [put_high (by rw [Nat.add_sub_cancel' (by omega)];exact hS1.1),hsum] at this
    exact this
   clear hsum hDlt hXY hC hP
   have HPR:=xQ1 PR
   have HADD:=xQ1 ADD
   clear PR ADD
   go_wp2_with fail
   go_region_with (first | (go_at_call 143;refine (HPR.out _ ?_).mono ?_;exact (Dr.refl _).drew;rintro e w8 ⟨a8,rfl,hN8⟩) | (go_at_call 160;refine (HADD.out _ _ _ ?_ hN8).mono ?_;exact (Dr.refl _).drew;rintro e w9 ⟨rfl,hwE,hsE⟩))
   clear HPR HADD
   all_goals go_wp2
   all_goals go_end0
   all_goals exact ⟨rfl,FIN.out _ _ _ _ (Dr.refl _).drew hN8 hwE hsE⟩
  ·have MH:Calls Tryz.prog 162 #[.slice (some ⟨b,off,none⟩) L cap,.slice (some ⟨b1,o1,none⟩) n cap1,.slice (some ⟨b2,o2,none⟩) m cap2,.int .i64 h] w fun e w'=>e=.returned (.tuple #[])∧Wr b off (off+L) w w'∧Seg w' (some ⟨b,off,none⟩) (X*Y) L:=by
    have:=mulByHalves_of ok b off L cap b1 o1 n cap1 X b2 o2 m cap2 Y h w (by omega) (by omega) (by omega) (by omega) (by omega) (by omega) (by have:=hLe.out;omega) (by omega) (by omega) (by omega) (by omega) hb1 hb2 hrow hS hX hY
    exact this
   have HMH:=xQ1 MH
   clear MH
   go_enter Tryz.func153,Tryz.ntmps153
   go_wp2_with fail
   refine HMH.out.mono ?_
   rintro e w1 ⟨rfl,r1,r2⟩
   clear HMH
   go_wp2
   go_end0
   exact ⟨rfl,r1,r2⟩
set_option maxHeartbeats 4000000 in
theorem mulInto_swap {N:Nat} (ok:MulOk N) (b off L cap b1 o1 n cap1 X b2 o2 m cap2 Y:Nat) (w:World) (hn:0 < n) (hm:0 < m) (hN:n+m≤N+1) (hL:L=n+m) (hLL:L≤70368744177664) (hcap:L≤cap) (hc1:n≤cap1) (hc2:m≤cap2) (hb1:b1≠b) (hb2:b2≠b) (hrow:Row w b)
  (hS:Seg w (some ⟨b,off,none⟩) 0 L) (hX:Seg w (some ⟨b1,o1,none⟩) X n) (hY:Seg w (some ⟨b2,o2,none⟩) Y m) (hnm:n < m) :
  Calls Tryz.prog 153 #[.slice (some ⟨b,off,none⟩) L cap,.slice (some ⟨b1,o1,none⟩) n cap1,.slice (some ⟨b2,o2,none⟩) m cap2] w fun e w'=>e=.returned (.tuple #[])∧Wr b off (off+L) w w'∧Seg w' (some ⟨b,off,none⟩) (X*Y) L:=by
 obtain ⟨h,hh1,hh2⟩:∃ h,2*h≤m+1∧m≤2*h:=⟨(m+1) / 2,by omega,by omega⟩
 have hhalf:((m:Int)+1) / 2=(h:Int):=by omega
 have hLa:L≤n+m:=by omega
 have hLb:n+m≤L:=by omega
 have hLe:Hid (L=n+m):=hL
 clear hL
 have hbw:=hrow.lt
 by_cases h64:n < 64
 ·have hS':Seg w (some ⟨b,off,none⟩) 0 (m+n):=by rw [show m+n=L by have:=hLe.out;omega];exact hS
  have ML:Calls Tryz.prog 161 #[.slice (some ⟨b,off,none⟩) L cap,.slice (some ⟨b2,o2,none⟩) m cap2,.slice (some ⟨b1,o1,none⟩) n cap1] w fun e w'=>e=.returned (.tuple #[])∧Wr b off (off+L) w w'∧Seg w' (some ⟨b,off,none⟩) (X*Y) L:=by
   have:=mulByLimbs_any b off m cap (some ⟨b2,o2,none⟩) (some ⟨b1,o1,none⟩) cap2 Y n cap1 X w (by omega) (by omega) (by omega) hrow hS' hY hX (xJ8 hb2) (xJ8 hb1)
   rw [show m+n=L by have:=hLe.out;omega] at this
   rwa [Nat.mul_comm Y X] at this
  have HML:=xQ1 ML
  clear ML
  go_enter Tryz.func153,Tryz.ntmps153
  go_wp2_with fail
  refine HML.out.mono ?_
  rintro e w1 ⟨rfl,r1,r2⟩
  clear HML
  go_wp2
  go_end0
  exact ⟨rfl,r1,r2⟩
 ·by_cases hmh:n≤h
  ·have s1:=sl_h (some ⟨b,off,none⟩) L cap (h+n) ((h:Int)+(n:Int)) (by omega) (by omega)
   have s2:=sl_h (some ⟨b2,o2,none⟩) m cap2 h (h:Int) rfl (by omega)
   have s3:=sl_l b off L cap h (h:Int) rfl (by omega) (by omega)
   have s4:=sl_l b2 o2 m cap2 h (h:Int) rfl (by omega) (by omega)
   have hv:0≤(h:Int)+(n:Int)∧(h:Int)+(n:Int)≤9223372036854775807:=by omega
   have OK1:∀ W,Dr w W→Calls Tryz.prog 153 #[.slice (some ⟨b,off,none⟩) (h+n) cap,.slice (some ⟨b2,o2,none⟩) h cap2,.slice (some ⟨b1,o1,none⟩) n cap1] W fun e w'=>e=.returned (.tuple #[])∧Wr b off (off+(h+n)) W w'∧Seg w' (some ⟨b,off,none⟩) (Y % BB ^ h*X) (h+n) :=
    fun W hW=>ok b off (h+n) cap b2 o2 h cap2 _ b1 o1 n cap1 _ W (by omega) (by omega) (by omega) rfl (by omega) (by omega) (by omega) (by omega) hb2 hb1 (hrow.dr hW) (by have:=(hS.dr hW).take (h+n) (by omega);rwa [Nat.zero_mod] at this) ((hY.take h (by omega)).dr hW) (hX.dr hW)
   have HOK:=xQ1 OK1
   clear OK1
   go_enter Tryz.func153,Tryz.ntmps153
   go_wp2_with fail
   have v1:=wrap64_small hv.1 hv.2
   have v2:=wrap_i64_small hv.1 hv.2
   clear hv
   go_region_with (go_at_call 153;refine (HOK.out _ ?_).mono ?_;exact (Dr.refl _).drew;rintro e w1 ⟨rfl,hwA,hsA⟩)
   clear HOK v1 v2
   have hA:Wr b off (off+L) w w1:=(Wr.drew (Wr.refl _ _ _ _)).trans (hwA.mono (by omega) (by omega))
   have hS1:Seg w1 (some ⟨b,off,none⟩) (Y % BB ^ h*X) L:=by
    have:=(hS.drew).splice (i:=0) (by rw [Nat.add_zero];exact hwA) (by rw [Nat.add_zero];exact hsA) (by omega) (by omega)
    rwa [show put 0 0 (h+n) (Y % BB ^ h*X)=Y % BB ^ h*X from put_zero_low (BBp _) hsA.1] at this
   have hX1:=hY.wr hA (xJ8 hb2)
   have hY1:=hX.wr hA (xJ8 hb1)
   have hXY:Y*X < BB ^ L:=Nat.lt_of_lt_of_le (mul_lt_pow hY.1 hX.1) (xX4 (by omega))
   obtain ⟨C,hC⟩:∃ C,C=Y % BB ^ h*X:=⟨_,rfl⟩
   rw [←hC] at hS1
   obtain ⟨P,hP⟩:∃ P,P=Y / BB ^ h*X:=⟨_,rfl⟩
   have hsum:(C / BB ^ h+P)*BB ^ h+C % BB ^ h=Y*X:=by
    have e1:=xZ8 C h
    have e2:Y*X=P*BB ^ h+C:=by
     rw [hP,hC,Nat.mul_right_comm,←Nat.add_mul,←xZ8]
    rw [e2,Nat.add_mul];omega
   have hDlt:C / BB ^ h+P < BB ^ (L - h):=by
    have e:BB ^ L=BB ^ (L - h)*BB ^ h:=by rw [←Nat.pow_add,Nat.sub_add_cancel (by omega)]
    rw [e] at hXY
    exact Nat.lt_of_mul_lt_mul_right (a:=BB ^ h) (Nat.lt_of_le_of_lt (Nat.le.intro hsum) hXY)
   have hbw1:b < w1.heap.size:=Nat.lt_of_lt_of_le hbw hA.size
   have PR:∀ W,Dr w1 W→Calls Tryz.prog 143 #[.slice (some ⟨b2,o2+h,none⟩) (m - h) (cap2 - h),.slice (some ⟨b1,o1,none⟩) n cap1] W fun e w'=>∃ ao,e=.returned (.slice ao (m - h+n) (m - h+n))∧New W w' ao P (m - h+n):=by
    intro W hW
    rw [hP]
    exact product_of ok _ _ _ _ _ _ _ _ _ _ W (by omega) (by omega) (by omega) (by omega) (by omega) (by omega) ((hX1.drop h (by omega)).dr hW) (hY1.dr hW)
   have ADD:∀ a8 W W',Dr w1 W→New W W' a8 P (m - h+n)→Calls Tryz.prog 160 #[.slice (some ⟨b,off+h,none⟩) (L - h) (cap - h),.slice a8 (m - h+n) (m - h+n)] W' fun e w'=>e=.returned (.tuple #[])∧Wr b (off+h) (off+h+(L - h)) W' w'∧Seg w' (some ⟨b,off+h,none⟩) ((C / BB ^ h+P) % BB ^ (L - h)) (L - h):=by
    intro a8 W W' hW hN8
    obtain ⟨b8,o8,rfl,hf8,hr8⟩:=hN8.fresh (by omega)
    have hsz:W.heap.size=w1.heap.size:=by obtain ⟨q,rfl⟩:=hW;rfl
    exact addInto_any _ _ _ _ _ _ _ _ P W' (by omega) (by omega) (((hA.row hrow).dr hW).below hN8.below (by omega)) (((hS1.dr hW).below hN8.below (Nat.le_refl _)).drop h (by omega)) hN8.seg (xJ8 (by omega))
   have FIN:Hid (∀ a8 W W' w',Dr w1 W→New W W' a8 P (m - h+n)→Wr b (off+h) (off+h+(L - h)) W' w'→Seg w' (some ⟨b,off+h,none⟩) ((C / BB ^ h+P) % BB ^ (L - h)) (L - h)→Wr b off (off+L) w w'∧Seg w' (some ⟨b,off,none⟩) (X*Y) L):=by
    intro a8 W W' w' hW hN8 hw hs
    have hsz:W.heap.size=w1.heap.size:=by obtain ⟨q,rfl⟩:=hW;rfl
    refine ⟨hA.trans ((Wr.of_dr hW).trans ((Wr.of_below hN8.below (by omega)).trans (hw.mono (by omega) (by omega)))),?_⟩
    rw [Nat.mod_eq_of_lt hDlt] at hs
    have:=((hS1.dr hW).below hN8.below (Nat.le_refl _)).splice (i:=h) hw hs (by omega) (by omega)
    rw [put_high (by rw [Nat.add_sub_cancel' (by omega)];exact hS1.1),hsum] at this
    rwa [Nat.mul_comm Y X] at this
   clear hsum hDlt hXY hC hP
   have HPR:=xQ1 PR
   have HADD:=xQ1 ADD
   clear PR ADD
   go_wp2_with fail
   go_region_with (first | (go_at_call 143;refine (HPR.out _ ?_).mono ?_;exact (Dr.refl _).drew;rintro e w8 ⟨a8,rfl,hN8⟩) | (go_at_call 160;refine (HADD.out _ _ _ ?_ hN8).mono ?_;exact (Dr.refl _).drew;rintro e w9 ⟨rfl,hwE,hsE⟩))
   clear HPR HADD
   all_goals go_wp2
   all_goals go_end0
   all_goals exact ⟨rfl,FIN.out _ _ _ _ (Dr.refl _).drew hN8 hwE hsE⟩
  ·have MH:Calls Tryz.prog 162 #[.slice (some ⟨b,off,none⟩) L cap,.slice (some ⟨b2,o2,none⟩) m cap2,.slice (some ⟨b1,o1,none⟩) n cap1,.int .i64 h] w fun e w'=>e=.returned (.tuple #[])∧Wr b off (off+L) w w'∧Seg w' (some ⟨b,off,none⟩) (X*Y) L:=by
    have:=mulByHalves_of ok b off L cap b2 o2 m cap2 Y b1 o1 n cap1 X h w (by omega) (by omega) (by omega) (by omega) (by omega) (by omega) (by have:=hLe.out;omega) (by omega) (by omega) (by omega) (by omega) hb2 hb1 hrow hS hY hX
    rwa [Nat.mul_comm Y X] at this
   have HMH:=xQ1 MH
   clear MH
   go_enter Tryz.func153,Tryz.ntmps153
   go_wp2_with fail
   refine HMH.out.mono ?_
   rintro e w1 ⟨rfl,r1,r2⟩
   clear HMH
   go_wp2
   go_end0
   exact ⟨rfl,r1,r2⟩
theorem mulOk:∀ N,MulOk N
 | 0=>by intro b off L cap b1 o1 n cap1 X b2 o2 m cap2 Y w hn hm hN;omega
 | N+1=>by
  intro b off L cap b1 o1 n cap1 X b2 o2 m cap2 Y w hn hm hN hL hLL hcap hc1 hc2 hb1 hb2 hrow hS hX hY
  by_cases hnm:n < m
  ·exact mulInto_swap (mulOk N) b off L cap b1 o1 n cap1 X b2 o2 m cap2 Y w hn hm hN hL hLL hcap hc1 hc2 hb1 hb2 hrow hS hX hY hnm
  ·exact mulInto_keep (mulOk N) b off L cap b1 o1 n cap1 X b2 o2 m cap2 Y w hn hm hN hL hLL hcap hc1 hc2 hb1 hb2 hrow hS hX hY hnm
set_option maxHeartbeats 1000000 in
theorem Mul_any (ao ao2:Option Addr) (n cap X m cap2 Y:Nat) (w:World) (hc:n≤cap) (hm:n≤35184372088832) (hS:Seg w ao X n) (hc2:m≤cap2) (hm2:m≤35184372088832) (hS2:Seg w ao2 Y m) :
  Calls Tryz.prog 132 #[.slice ao n cap,.slice ao2 m cap2] w fun e w'=>∃ ao',e=.returned (.slice ao' (ln (X*Y)) (ln (X*Y)))∧New w w' ao' (X*Y) (ln (X*Y)):=by
 have hl:=xQ4 hS.1
 have hl2:=xQ4 hS2.1
 by_cases h0:X=0
 ·subst h0
  have hb:(((ln 0:Nat):Int) == 0)=true:=by rw [xX7];rfl
  rw [Nat.zero_mul]
  go_enter Tryz.func132,Tryz.ntmps132
  go_wp2_with fail
  refine (xX5 _ _ _ 0 _ hc (by omega) hS).mono ?_
  rintro e w' ⟨a1,rfl,rfl,ht⟩
  go_wp2_with fail
  refine (xX5 _ _ _ Y _ hc2 (by omega) hS2).mono ?_
  rintro e w' ⟨a2,rfl,rfl,ht2⟩
  go_wp2
  go_ret
  exact ⟨none,by rw [xX7];rfl,by rw [xX7];exact New.nil _ (Below.refl _ _)⟩
 ·have hx0:0 < ln X:=by have:=mt ln_eq_zero.1 h0;omega
  have hbx:(((ln X:Nat):Int) == 0)=false:=by rw [beq_eq_false_iff_ne];omega
  by_cases h1:Y=0
  ·subst h1
   have hb:(((ln 0:Nat):Int) == 0)=true:=by rw [xX7];rfl
   rw [Nat.mul_zero]
   go_enter Tryz.func132,Tryz.ntmps132
   go_wp2_with fail
   refine (xX5 _ _ _ X _ hc (by omega) hS).mono ?_
   rintro e w' ⟨a1,rfl,rfl,ht⟩
   go_wp2_with fail
   refine (xX5 _ _ _ 0 _ hc2 (by omega) hS2).mono ?_
   rintro e w' ⟨a2,rfl,rfl,ht2⟩
   go_wp2
   go_ret
   exact ⟨none,by rw [xX7];rfl,by rw [xX7];exact New.nil _ (Below.refl _ _)⟩
  ·have hy0:0 < ln Y:=by have:=mt ln_eq_zero.1 h1;omega
   have hby:(((ln Y:Nat):Int) == 0)=false:=by rw [beq_eq_false_iff_ne];omega
   clear h0 h1
   go_enter Tryz.func132,Tryz.ntmps132
   go_wp2_with fail
   refine (xX5 _ _ _ X _ hc (by omega) hS).mono ?_
   rintro e w' ⟨a1,rfl,rfl,ht⟩
   have hT:=hS.trm ht
   go_wp2_with fail
   refine (xX5 _ _ _ Y _ hc2 (by omega) hS2).mono ?_
   rintro e w' ⟨a2,rfl,rfl,ht2⟩
   have hT2:=hS2.trm ht2
   obtain ⟨b1,o1,rfl,hb1,_⟩:=hT.2 hx0
   obtain ⟨b2,o2,rfl,hb2,_⟩:=hT2.2 hy0
   go_wp2_with fail
   refine (product_of (mulOk (ln X+ln Y)) _ _ _ _ X _ _ _ _ Y _ hx0 hy0 (Nat.le_refl _) (by omega) (Nat.le_refl _) (Nat.le_refl _) hT hT2).mono ?_
   rintro e w3 ⟨a3,rfl,hn3⟩
   go_wp2_with fail
   refine (xX5 _ _ _ (X*Y) _ (Nat.le_refl _) (by omega) hn3.seg).mono ?_
   rintro e w4 ⟨a4,rfl,rfl,ht4⟩
   go_wp2
   go_ret
   exact ⟨_,rfl,hn3.trm ht4⟩
theorem Mul_is (ao ao2:Option Addr) (n cap X m cap2 Y Z:Nat) (w:World) (hc:n≤cap) (hm:n≤35184372088832) (hS:Seg w ao X n) (hc2:m≤cap2) (hm2:m≤35184372088832) (hS2:Seg w ao2 Y m) (hz:X*Y=Z) :
  Calls Tryz.prog 132 #[.slice ao n cap,.slice ao2 m cap2] w fun e w'=>∃ ao',e=.returned (.slice ao' (ln Z) (ln Z))∧New w w' ao' Z (ln Z):=by
 subst hz;exact Mul_any ao ao2 n cap X m cap2 Y w hc hm hS hc2 hm2 hS2
theorem sd_beq (s t:Bool):(sd s == sd t)=(s == t):=by cases s <;> cases t <;> rfl
set_option maxHeartbeats 2000000 in
set_option maxRecDepth 30000 in
theorem sum_is (s1 t1:Bool) (ao:Option Addr) (n cap X:Nat) (s2 t2:Bool) (ao2:Option Addr) (m cap2 Y:Nat) (Z:Int) (w:World) (hc:n≤cap) (hm:n≤70368744177663) (hS:Seg w ao X n) (hc2:m≤cap2) (hm2:m≤70368744177663) (hS2:Seg w ao2 Y m) (hZ:sg t1 X+sg t2 Y=Z) :
  Calls Tryz.prog 144 #[.agg #[.bool s1,.slice ao n cap],.int .i64 (sd t1),.agg #[.bool s2,.slice ao2 m cap2],.int .i64 (sd t2)] w fun e w'=>∃ ao',e=.returned (.agg #[.bool (ng Z),.slice ao' (ln (am Z)) (ln (am Z))])∧New w w' ao' (am Z) (ln (am Z)):=by
 have hl1:=xQ4 hS.1
 have hl2:=xQ4 hS2.1
 have hl3:ln (X+Y)≤70368744177664:=ln_sum hS.1 hS2.1 (by omega) (by omega)
 have hbe:=sd_beq t1 t2
 by_cases ht:t1=t2
 ·subst ht
  have hZ2:sg t1 (X+Y)=Z:=by rw [←sg_add];exact hZ
  have hbe2:(sd t1 == sd t1)=true:=by simp
  clear hbe
  go_enter Tryz.func144,Tryz.ntmps144
  go_wp2_with fail
  obtain ⟨W,hW⟩:∃ W,(((w.alloc (.cells #[.bool s1,.slice ao n cap] 53)).alloc (.cells #[.bool s2,.slice ao2 m cap2] 53)).alloc (.cells #[.bool false,.slice none 0 0] 53))=W:=⟨_,rfl⟩
  have q00:W.cell? ⟨w.heap.size,0,none⟩=some (.bool s1):=by subst hW;go_simp
  have q01:W.cell? ⟨w.heap.size,1,none⟩=some (.slice ao n cap):=by subst hW;go_simp
  have q10:W.cell? ⟨w.heap.size+1,0,none⟩=some (.bool s2):=by subst hW;go_simp
  have q11:W.cell? ⟨w.heap.size+1,1,none⟩=some (.slice ao2 m cap2):=by subst hW;go_simp
  have r00:W.cell? ⟨w.heap.size+1+1,0,none⟩=some (.bool false):=by subst hW;go_simp
  have r01:W.cell? ⟨w.heap.size+1+1,1,none⟩=some (.slice none 0 0):=by subst hW;go_simp
  have hB:Below w.heap.size w W:=by subst hW;exact ((((Below.refl _ _).alloc (by (try simp only [World.size_alloc]);omega) _).alloc (by (try simp only [World.size_alloc]);omega) _).alloc (by (try simp only [World.size_alloc]);omega) _)
  have hR0:Row W (w.heap.size+1+1):=by
   have:=xQ9 (((w.alloc (.cells #[.bool s1,.slice ao n cap] 53)).alloc (.cells #[.bool s2,.slice ao2 m cap2] 53))) #[.bool false,.slice none 0 0] 53
   try simp only [World.size_alloc] at this
   subst hW;exact this
  have hz:W.heap.size=w.heap.size+1+1+1:=by subst hW;simp only [World.size_alloc]
  rw [hW]
  clear hW
  have hBW:Below W.heap.size W W:=Below.refl _ _
  go_wp2_with fail
  refine (Add_any ao ao2 n cap X m cap2 Y _ hc hm (sb hS hB hBW) hc2 hm2 (sb hS2 hB hBW)).mono ?_
  rintro e w1 ⟨a1,rfl,hn⟩
  have b1:=hn.below
  replace hn:=hn.back hBW
  replace hBW:=hBW.trans (b1.mono hBW.size)
  replace q00:=xQ0 b1 q00
  replace q01:=xQ0 b1 q01
  replace q10:=xQ0 b1 q10
  replace q11:=xQ0 b1 q11
  replace r00:=xQ0 b1 r00
  replace r01:=xQ0 b1 r01
  replace hR0:=xQ3 b1 hR0
  go_wp2_with fail
  refine (signed1 a1 (ln (X+Y)) (ln (X+Y)) t1 _ (by omega)).mono ?_
  rintro e w2 ⟨rfl,b2⟩
  replace hBW:=hBW.trans (b2.mono hBW.size)
  replace q00:=xQ0 b2 q00
  replace q01:=xQ0 b2 q01
  replace q10:=xQ0 b2 q10
  replace q11:=xQ0 b2 q11
  replace r00:=xQ0 b2 r00
  replace r01:=xQ0 b2 r01
  replace hR0:=xQ3 b2 hR0
  replace hn:=hn.later b2
  have fz0:=fun o=>hR0.frozen o
  go_wp2
  refine bodyPost_ret (v:=.agg #[.bool (t1 && decide (0 < ln (X+Y))),.slice a1 (ln (X+Y)) (ln (X+Y))]) (by rw [xQ5 rfl];go_simp) rfl ?_
  exact ⟨a1,res_eq hZ2,NewI (hn.ret hB (by omega) (by omega) _ _) hZ2⟩
 ·have hf:(t1 == t2)=false:=by simpa using ht
  rw [hf] at hbe
  by_cases hle:Y≤X
  ·have hZ2:sg t1 (X - Y)=Z:=by rw [←hZ];exact (sg_sub ht hle).symm
   have HL:Hid (Y≤X):=hle
   have hl4:ln (X - Y)≤70368744177664:=by have:=xZ4 (Nat.sub_le X Y);omega
   clear hle
   go_enter Tryz.func144,Tryz.ntmps144
   go_wp2_with fail
   obtain ⟨W,hW⟩:∃ W,(((w.alloc (.cells #[.bool s1,.slice ao n cap] 53)).alloc (.cells #[.bool s2,.slice ao2 m cap2] 53)).alloc (.cells #[.bool false,.slice none 0 0] 53))=W:=⟨_,rfl⟩
   have q00:W.cell? ⟨w.heap.size,0,none⟩=some (.bool s1):=by subst hW;go_simp
   have q01:W.cell? ⟨w.heap.size,1,none⟩=some (.slice ao n cap):=by subst hW;go_simp
   have q10:W.cell? ⟨w.heap.size+1,0,none⟩=some (.bool s2):=by subst hW;go_simp
   have q11:W.cell? ⟨w.heap.size+1,1,none⟩=some (.slice ao2 m cap2):=by subst hW;go_simp
   have r00:W.cell? ⟨w.heap.size+1+1,0,none⟩=some (.bool false):=by subst hW;go_simp
   have r01:W.cell? ⟨w.heap.size+1+1,1,none⟩=some (.slice none 0 0):=by subst hW;go_simp
   have hB:Below w.heap.size w W:=by subst hW;exact ((((Below.refl _ _).alloc (by (try simp only [World.size_alloc]);omega) _).alloc (by (try simp only [World.size_alloc]);omega) _).alloc (by (try simp only [World.size_alloc]);omega) _)
   have hR0:Row W (w.heap.size+1+1):=by
    have:=xQ9 (((w.alloc (.cells #[.bool s1,.slice ao n cap] 53)).alloc (.cells #[.bool s2,.slice ao2 m cap2] 53))) #[.bool false,.slice none 0 0] 53
    try simp only [World.size_alloc] at this
    subst hW;exact this
   have hz:W.heap.size=w.heap.size+1+1+1:=by subst hW;simp only [World.size_alloc]
   rw [hW]
   clear hW
   have hBW:Below W.heap.size W W:=Below.refl _ _
   go_wp2_with fail
   refine (Sub_any ao ao2 n cap X m cap2 Y _ hc (by omega) (sb hS hB hBW) hc2 (by omega) (sb hS2 hB hBW) HL.out).mono ?_
   rintro e w1 ⟨a1,rfl,hn⟩
   have b1:=hn.below
   replace hn:=hn.back hBW
   replace hBW:=hBW.trans (b1.mono hBW.size)
   replace q00:=xQ0 b1 q00
   replace q01:=xQ0 b1 q01
   replace q10:=xQ0 b1 q10
   replace q11:=xQ0 b1 q11
   replace r00:=xQ0 b1 r00
   replace r01:=xQ0 b1 r01
   replace hR0:=xQ3 b1 hR0
   go_wp2_with fail
   refine (signed1 a1 (ln (X - Y)) (ln (X - Y)) t1 _ (by omega)).mono ?_
   rintro e w2 ⟨rfl,b2⟩
   replace hBW:=hBW.trans (b2.mono hBW.size)
   replace q00:=xQ0 b2 q00
   replace q01:=xQ0 b2 q01
   replace q10:=xQ0 b2 q10
   replace q11:=xQ0 b2 q11
   replace r00:=xQ0 b2 r00
   replace r01:=xQ0 b2 r01
   replace hR0:=xQ3 b2 hR0
   replace hn:=hn.later b2
   have fz0:=fun o=>hR0.frozen o
   go_wp2
   refine bodyPost_ret (v:=.agg #[.bool (t1 && decide (0 < ln (X - Y))),.slice a1 (ln (X - Y)) (ln (X - Y))]) (by rw [xQ5 rfl];go_simp) rfl ?_
   exact ⟨a1,res_eq hZ2,NewI (hn.ret hB (by omega) (by omega) _ _) hZ2⟩
  ·have hlt:X < Y:=Nat.lt_of_not_le hle
   have hZ2:sg t2 (Y - X)=Z:=by rw [←hZ];exact (sg_sub' ht (Nat.le_of_lt hlt)).symm
   have HL:Hid (X < Y):=hlt
   have hl4:ln (Y - X)≤70368744177664:=by have:=xZ4 (Nat.sub_le Y X);omega
   clear hle hlt
   go_enter Tryz.func144,Tryz.ntmps144
   go_wp2_with fail
   obtain ⟨W,hW⟩:∃ W,(((w.alloc (.cells #[.bool s1,.slice ao n cap] 53)).alloc (.cells #[.bool s2,.slice ao2 m cap2] 53)).alloc (.cells #[.bool false,.slice none 0 0] 53))=W:=⟨_,rfl⟩
   have q00:W.cell? ⟨w.heap.size,0,none⟩=some (.bool s1):=by subst hW;go_simp
   have q01:W.cell? ⟨w.heap.size,1,none⟩=some (.slice ao n cap):=by subst hW;go_simp
   have q10:W.cell? ⟨w.heap.size+1,0,none⟩=some (.bool s2):=by subst hW;go_simp
   have q11:W.cell? ⟨w.heap.size+1,1,none⟩=some (.slice ao2 m cap2):=by subst hW;go_simp
   have r00:W.cell? ⟨w.heap.size+1+1,0,none⟩=some (.bool false):=by subst hW;go_simp
   have r01:W.cell? ⟨w.heap.size+1+1,1,none⟩=some (.slice none 0 0):=by subst hW;go_simp
   have hB:Below w.heap.size w W:=by subst hW;exact ((((Below.refl _ _).alloc (by (try simp only [World.size_alloc]);omega) _).alloc (by (try simp only [World.size_alloc]);omega) _).alloc (by (try simp only [World.size_alloc]);omega) _)
   have hR0:Row W (w.heap.size+1+1):=by
    have:=xQ9 (((w.alloc (.cells #[.bool s1,.slice ao n cap] 53)).alloc (.cells #[.bool s2,.slice ao2 m cap2] 53))) #[.bool false,.slice none 0 0] 53
    try simp only [World.size_alloc] at this
    subst hW;exact this
   have hz:W.heap.size=w.heap.size+1+1+1:=by subst hW;simp only [World.size_alloc]
   rw [hW]
   clear hW
   have hBW:Below W.heap.size W W:=Below.refl _ _
   refine (Sub_below ao ao2 n cap X m cap2 Y _ hc (by omega) (sb hS hB hBW) hc2 (by omega) (sb hS2 hB hBW) HL.out).mono ?_
   rintro e w1 ⟨rfl,hd1⟩
   have b1:=hd1.below W.heap.size
   replace hBW:=hBW.trans (b1.mono hBW.size)
   replace q00:=xQ0 b1 q00
   replace q01:=xQ0 b1 q01
   replace q10:=xQ0 b1 q10
   replace q11:=xQ0 b1 q11
   replace r00:=xQ0 b1 r00
   replace r01:=xQ0 b1 r01
   replace hR0:=xQ3 b1 hR0
   go_wp2_with fail
   refine (Sub_any ao2 ao m cap2 Y n cap X _ hc2 (by omega) (sb hS2 hB hBW) hc (by omega) (sb hS hB hBW) (Nat.le_of_lt HL.out)).mono ?_
   rintro e w2 ⟨a2,rfl,hn⟩
   have b2:=hn.below
   replace hn:=hn.back hBW
   replace hBW:=hBW.trans (b2.mono hBW.size)
   replace q00:=xQ0 b2 q00
   replace q01:=xQ0 b2 q01
   replace q10:=xQ0 b2 q10
   replace q11:=xQ0 b2 q11
   replace r00:=xQ0 b2 r00
   replace r01:=xQ0 b2 r01
   replace hR0:=xQ3 b2 hR0
   go_wp2_with fail
   refine (signed1 a2 (ln (Y - X)) (ln (Y - X)) t2 _ (by omega)).mono ?_
   rintro e w3 ⟨rfl,b3⟩
   replace hBW:=hBW.trans (b3.mono hBW.size)
   replace q00:=xQ0 b3 q00
   replace q01:=xQ0 b3 q01
   replace q10:=xQ0 b3 q10
   replace q11:=xQ0 b3 q11
   replace r00:=xQ0 b3 r00
   replace r01:=xQ0 b3 r01
   replace hR0:=xQ3 b3 hR0
   replace hn:=hn.later b3
   have fz0:=fun o=>hR0.frozen o
   go_wp2
   refine bodyPost_ret (v:=.agg #[.bool (t2 && decide (0 < ln (Y - X))),.slice a2 (ln (Y - X)) (ln (Y - X))]) (by rw [xQ5 rfl];go_simp) rfl ?_
   exact ⟨a2,res_eq hZ2,NewI (hn.ret hB (by omega) (by omega) _ _) hZ2⟩
set_option maxHeartbeats 2000000 in
set_option maxRecDepth 30000 in
theorem wAdd_is (s:Bool) (ao:Option Addr) (n cap X:Nat) (t:Bool) (ao2:Option Addr) (m cap2 Y:Nat) (Z:Int) (w:World) (hc:n≤cap) (hm:n≤70368744177663) (hS:Seg w ao X n) (hc2:m≤cap2) (hm2:m≤70368744177663) (hS2:Seg w ao2 Y m) (hZ:sg s X+sg t Y=Z) :
  Calls Tryz.prog 133 #[.agg #[.bool s,.slice ao n cap],.agg #[.bool t,.slice ao2 m cap2]] w fun e w'=>∃ ao',e=.returned (.agg #[.bool (ng Z),.slice ao' (ln (am Z)) (ln (am Z))])∧New w w' ao' (am Z) (ln (am Z)):=by
 go_enter Tryz.func133,Tryz.ntmps133
 go_wp2_with fail
 obtain ⟨W,hW⟩:∃ W,(((w.alloc (.cells #[.bool s,.slice ao n cap] 53)).alloc (.cells #[.bool t,.slice ao2 m cap2] 53)).alloc (.cells #[.bool false,.slice none 0 0] 53))=W:=⟨_,rfl⟩
 have q00:W.cell? ⟨w.heap.size,0,none⟩=some (.bool s):=by subst hW;go_simp
 have q01:W.cell? ⟨w.heap.size,1,none⟩=some (.slice ao n cap):=by subst hW;go_simp
 have q10:W.cell? ⟨w.heap.size+1,0,none⟩=some (.bool t):=by subst hW;go_simp
 have q11:W.cell? ⟨w.heap.size+1,1,none⟩=some (.slice ao2 m cap2):=by subst hW;go_simp
 have r00:W.cell? ⟨w.heap.size+1+1,0,none⟩=some (.bool false):=by subst hW;go_simp
 have r01:W.cell? ⟨w.heap.size+1+1,1,none⟩=some (.slice none 0 0):=by subst hW;go_simp
 have hB:Below w.heap.size w W:=by subst hW;exact ((((Below.refl _ _).alloc (by (try simp only [World.size_alloc]);omega) _).alloc (by (try simp only [World.size_alloc]);omega) _).alloc (by (try simp only [World.size_alloc]);omega) _)
 have hR0:Row W (w.heap.size+1+1):=by
  have:=xQ9 (((w.alloc (.cells #[.bool s,.slice ao n cap] 53)).alloc (.cells #[.bool t,.slice ao2 m cap2] 53))) #[.bool false,.slice none 0 0] 53
  try simp only [World.size_alloc] at this
  subst hW;exact this
 have hz:W.heap.size=w.heap.size+1+1+1:=by subst hW;simp only [World.size_alloc]
 rw [hW]
 clear hW
 have hBW:Below W.heap.size W W:=Below.refl _ _
 replace hBW:=hBW.drew
 first
  | go_region_held3 (fun w'=>w'.cell? ⟨w.heap.size,0,none⟩=some (.bool s)∧w'.cell? ⟨w.heap.size,1,none⟩=some (.slice ao n cap)∧w'.cell? ⟨w.heap.size+1,0,none⟩=some (.bool t)∧w'.cell? ⟨w.heap.size+1,1,none⟩=some (.slice ao2 m cap2)∧Below w.heap.size w w')
    (first | exact ⟨q00,q01,q10,q11,hB.trans (hBW.mono hB.size)⟩ | exact kp4 b1 (by assumption) | exact kp4 b2 (by assumption) | exact kp4 b3 (by assumption) | exact kp4 (xQ2 _) (by assumption) | exact kpS4 (kpS4 (by assumption) (by omega) (by omega) (by omega)) (by omega) (by omega) (by omega))
    (first
     | (go_at_call 122;go_at_call_of 122 (Value.agg #[.bool s,.slice ao n cap]);refine (side_any s _ _).mono ?_;rintro e w1 ⟨rfl,b1⟩;replace hBW:=hBW.trans (b1.mono hBW.size);replace q00:=xQ0 b1 q00;replace q01:=xQ0 b1 q01;replace q10:=xQ0 b1 q10;replace q11:=xQ0 b1 q11;replace r00:=xQ0 b1 r00;replace r01:=xQ0 b1 r01;replace hR0:=xQ3 b1 hR0)
     | (go_at_call 122;go_at_call_of 122 (Value.agg #[.bool t,.slice ao2 m cap2]);refine (side_any t _ _).mono ?_;rintro e w2 ⟨rfl,b2⟩;replace hBW:=hBW.trans (b2.mono hBW.size);replace q00:=xQ0 b2 q00;replace q01:=xQ0 b2 q01;replace q10:=xQ0 b2 q10;replace q11:=xQ0 b2 q11;replace r00:=xQ0 b2 r00;replace r01:=xQ0 b2 r01;replace hR0:=xQ3 b2 hR0)
     | (go_at_call 144;(fail_if_success clear b3);refine (sum_is s s ao n cap X t t ao2 m cap2 Y Z _ hc hm (sb hS hB hBW) hc2 hm2 (sb hS2 hB hBW) hZ).mono ?_;rintro e w3 ⟨a3,rfl,hn⟩;have b3:=hn.below;replace hn:=hn.back hBW;replace hBW:=hBW.trans (b3.mono hBW.size);replace q00:=xQ0 b3 q00;replace q01:=xQ0 b3 q01;replace q10:=xQ0 b3 q10;replace q11:=xQ0 b3 q11;replace r00:=xQ0 b3 r00;replace r01:=xQ0 b3 r01;replace hR0:=xQ3 b3 hR0;have fz:=fun o=>hR0.frozen o))
  | fail
 go_wp2
 refine bodyPost_ret (v:=.agg #[.bool (ng Z),.slice a3 (ln (am Z)) (ln (am Z))]) (by rw [xQ5 rfl];go_simp) rfl ?_
 exact ⟨a3,rfl,hn.ret hB (by omega) (by omega) _ _⟩
set_option maxHeartbeats 2000000 in
set_option maxRecDepth 30000 in
theorem wMul_is (s:Bool) (ao:Option Addr) (n cap X:Nat) (t:Bool) (ao2:Option Addr) (m cap2 Y:Nat) (Z:Int) (w:World) (hc:n≤cap) (hm:n≤35184372088832) (hS:Seg w ao X n) (hc2:m≤cap2) (hm2:m≤35184372088832) (hS2:Seg w ao2 Y m) (hZ:sg s X*sg t Y=Z) :
  Calls Tryz.prog 116 #[.agg #[.bool s,.slice ao n cap],.agg #[.bool t,.slice ao2 m cap2]] w fun e w'=>∃ ao',e=.returned (.agg #[.bool (ng Z),.slice ao' (ln (am Z)) (ln (am Z))])∧New w w' ao' (am Z) (ln (am Z)):=by
 have hZ2:sg (s != t) (X*Y)=Z:=by rw [←sg_mul];exact hZ
 have hl3:ln (X*Y)≤70368744177664:=by have:=ln_prod hS.1 hS2.1;omega
 obtain ⟨P,hP⟩:∃ P,X*Y=P:=⟨_,rfl⟩
 rw [hP] at hZ2 hl3
 go_enter Tryz.func116,Tryz.ntmps116
 go_wp2_with fail
 obtain ⟨W,hW⟩:∃ W,(((w.alloc (.cells #[.bool s,.slice ao n cap] 53)).alloc (.cells #[.bool t,.slice ao2 m cap2] 53)).alloc (.cells #[.bool false,.slice none 0 0] 53))=W:=⟨_,rfl⟩
 have q00:W.cell? ⟨w.heap.size,0,none⟩=some (.bool s):=by subst hW;go_simp
 have q01:W.cell? ⟨w.heap.size,1,none⟩=some (.slice ao n cap):=by subst hW;go_simp
 have q10:W.cell? ⟨w.heap.size+1,0,none⟩=some (.bool t):=by subst hW;go_simp
 have q11:W.cell? ⟨w.heap.size+1,1,none⟩=some (.slice ao2 m cap2):=by subst hW;go_simp
 have r00:W.cell? ⟨w.heap.size+1+1,0,none⟩=some (.bool false):=by subst hW;go_simp
 have r01:W.cell? ⟨w.heap.size+1+1,1,none⟩=some (.slice none 0 0):=by subst hW;go_simp
 have hB:Below w.heap.size w W:=by subst hW;exact ((((Below.refl _ _).alloc (by (try simp only [World.size_alloc]);omega) _).alloc (by (try simp only [World.size_alloc]);omega) _).alloc (by (try simp only [World.size_alloc]);omega) _)
 have hR0:Row W (w.heap.size+1+1):=by
  have:=xQ9 (((w.alloc (.cells #[.bool s,.slice ao n cap] 53)).alloc (.cells #[.bool t,.slice ao2 m cap2] 53))) #[.bool false,.slice none 0 0] 53
  try simp only [World.size_alloc] at this
  subst hW;exact this
 have hz:W.heap.size=w.heap.size+1+1+1:=by subst hW;simp only [World.size_alloc]
 rw [hW]
 clear hW
 have hBW:Below W.heap.size W W:=Below.refl _ _
 replace hBW:=hBW.drew
 first
  | go_region_held3 (fun w'=>w'.cell? ⟨w.heap.size,0,none⟩=some (.bool s)∧w'.cell? ⟨w.heap.size,1,none⟩=some (.slice ao n cap)∧w'.cell? ⟨w.heap.size+1,0,none⟩=some (.bool t)∧w'.cell? ⟨w.heap.size+1,1,none⟩=some (.slice ao2 m cap2)∧Below w.heap.size w w')
    (first | exact ⟨q00,q01,q10,q11,hB.trans (hBW.mono hB.size)⟩ | exact kp4 b1 (by assumption) | exact kp4 b2 (by assumption) | exact kp4 b3 (by assumption) | exact kp4 b4 (by assumption) | exact kp4 (xQ2 _) (by assumption) | exact kpS4 (kpS4 (by assumption) (by omega) (by omega) (by omega)) (by omega) (by omega) (by omega))
    (first
     | (go_at_call 132;(fail_if_success clear b1);refine (Mul_is ao ao2 n cap X m cap2 Y P _ hc hm (sb hS hB hBW) hc2 hm2 (sb hS2 hB hBW) hP).mono ?_;rintro e w1 ⟨a1,rfl,hn⟩;have b1:=hn.below;replace hn:=hn.back hBW;replace hBW:=hBW.trans (b1.mono hBW.size);replace q00:=xQ0 b1 q00;replace q01:=xQ0 b1 q01;replace q10:=xQ0 b1 q10;replace q11:=xQ0 b1 q11;replace r00:=xQ0 b1 r00;replace r01:=xQ0 b1 r01;replace hR0:=xQ3 b1 hR0)
     | (go_at_call 122;go_at_call_of 122 (Value.agg #[.bool s,.slice ao n cap]);refine (side_any s _ _).mono ?_;rintro e w2 ⟨rfl,b2⟩;replace hBW:=hBW.trans (b2.mono hBW.size);replace q00:=xQ0 b2 q00;replace q01:=xQ0 b2 q01;replace q10:=xQ0 b2 q10;replace q11:=xQ0 b2 q11;replace r00:=xQ0 b2 r00;replace r01:=xQ0 b2 r01;replace hR0:=xQ3 b2 hR0;replace hn:=hn.later b2)
     | (go_at_call 122;go_at_call_of 122 (Value.agg #[.bool t,.slice ao2 m cap2]);refine (side_any t _ _).mono ?_;rintro e w3 ⟨rfl,b3⟩;replace hBW:=hBW.trans (b3.mono hBW.size);replace q00:=xQ0 b3 q00;replace q01:=xQ0 b3 q01;replace q10:=xQ0 b3 q10;replace q11:=xQ0 b3 q11;replace r00:=xQ0 b3 r00;replace r01:=xQ0 b3 r01;replace hR0:=xQ3 b3 hR0;replace hn:=hn.later b3)
     | (go_at_call 121;refine (signed2 a1 (ln P) (ln P) s t _ (by omega)).mono ?_;rintro e w4 ⟨rfl,b4⟩;replace hBW:=hBW.trans (b4.mono hBW.size);replace q00:=xQ0 b4 q00;replace q01:=xQ0 b4 q01;replace q10:=xQ0 b4 q10;replace q11:=xQ0 b4 q11;replace r00:=xQ0 b4 r00;replace r01:=xQ0 b4 r01;replace hR0:=xQ3 b4 hR0;replace hn:=hn.later b4;have fz:=fun o=>hR0.frozen o))
  | fail
 go_wp2
 refine bodyPost_ret (v:=.agg #[.bool ((s != t) && decide (0 < ln P)),.slice a1 (ln P) (ln P)]) (by rw [xQ5 rfl];go_simp) rfl ?_
 exact ⟨a1,res_eq hZ2,NewI (hn.ret hB (by omega) (by omega) _ _) hZ2⟩
set_option maxHeartbeats 1000000 in
theorem wOf_is (z:Int) (w:World) (h1:-9223372036854775808≤z) (h2:z≤9223372036854775807) :
  Calls Tryz.prog 102 #[.int .i64 z] w fun e w'=>∃ ao',e=.returned (.agg #[.bool (ng z),.slice ao' (ln (am z)) (ln (am z))])∧New w w' ao' (am z) (ln (am z)):=by
 by_cases hz:z < 0
 ·obtain ⟨m,hm⟩:∃ m:Nat,z = -(m:Int):=⟨z.toNat+(-z).toNat,by omega⟩
  have hZ:sg true m=z:=by rw [hm];rfl
  have HM:Hid (z = -(m:Int)):=hm
  clear hm
  have hm63:m≤9223372036854775808:=by have:=HM.out;omega
  have hl:ln m≤2:=xQ4 (by rw [BB2];omega)
  go_enter Tryz.func102,Tryz.ntmps102
  go_wp2_with fail
  rw [show IntKind.u64.wrap (-IntKind.u64.wrap z)=(m:Int) by have:=HM.out;simp only [IntKind.wrap_u64];omega]
  obtain ⟨W,hW⟩:∃ W,(w.alloc (.cells #[.bool false,.slice none 0 0] 53))=W:=⟨_,rfl⟩
  have r00:W.cell? ⟨w.heap.size,0,none⟩=some (.bool false):=by subst hW;go_simp
  have r01:W.cell? ⟨w.heap.size,1,none⟩=some (.slice none 0 0):=by subst hW;go_simp
  have hB:Below w.heap.size w W:=by subst hW;exact ((Below.refl _ _).alloc (by (try simp only [World.size_alloc]);omega) _)
  have hR0:Row W (w.heap.size):=by
   have:=xQ9 (w) #[.bool false,.slice none 0 0] 53
   try simp only [World.size_alloc] at this
   subst hW;exact this
  have hz:W.heap.size=w.heap.size+1:=by subst hW;simp only [World.size_alloc]
  rw [hW]
  clear hW
  have hBW:Below W.heap.size W W:=Below.refl _ _
  go_wp2_with fail
  refine (Of_any m _ (by omega)).mono ?_
  rintro e w1 ⟨a1,rfl,hn⟩
  have b1:=hn.below
  replace hn:=hn.back hBW
  replace hBW:=hBW.trans (b1.mono hBW.size)
  replace r00:=xQ0 b1 r00
  replace r01:=xQ0 b1 r01
  replace hR0:=xQ3 b1 hR0
  go_wp2_with fail
  refine (signed1 a1 (ln m) (ln m) true _ (by omega)).mono ?_
  rintro e w2 ⟨rfl,b2⟩
  replace hBW:=hBW.trans (b2.mono hBW.size)
  replace r00:=xQ0 b2 r00
  replace r01:=xQ0 b2 r01
  replace hR0:=xQ3 b2 hR0
  replace hn:=hn.later b2
  have fz0:=fun o=>hR0.frozen o
  go_wp2
  refine bodyPost_ret (v:=.agg #[.bool (true && decide (0 < ln m)),.slice a1 (ln m) (ln m)]) (by rw [xQ5 rfl];go_simp) rfl ?_
  exact ⟨a1,res_eq hZ,NewI (hn.ret hB (by omega) (by omega) _ _) hZ⟩
 ·obtain ⟨m,rfl⟩:∃ m:Nat,z=(m:Int):=⟨z.toNat,by omega⟩
  have hZ:sg false m=(m:Int):=rfl
  have hl:ln m≤2:=xQ4 (by rw [BB2];omega)
  go_enter Tryz.func102,Tryz.ntmps102
  go_wp2_with fail
  try rw [show IntKind.u64.wrap (m:Int)=(m:Int) by simp only [IntKind.wrap_u64];omega]
  obtain ⟨W,hW⟩:∃ W,(w.alloc (.cells #[.bool false,.slice none 0 0] 53))=W:=⟨_,rfl⟩
  have r00:W.cell? ⟨w.heap.size,0,none⟩=some (.bool false):=by subst hW;go_simp
  have r01:W.cell? ⟨w.heap.size,1,none⟩=some (.slice none 0 0):=by subst hW;go_simp
  have hB:Below w.heap.size w W:=by subst hW;exact ((Below.refl _ _).alloc (by (try simp only [World.size_alloc]);omega) _)
  have hR0:Row W (w.heap.size):=by
   have:=xQ9 (w) #[.bool false,.slice none 0 0] 53
   try simp only [World.size_alloc] at this
   subst hW;exact this
  have hz:W.heap.size=w.heap.size+1:=by subst hW;simp only [World.size_alloc]
  rw [hW]
  clear hW
  have hBW:Below W.heap.size W W:=Below.refl _ _
  go_wp2_with fail
  refine (Of_any m _ (by omega)).mono ?_
  rintro e w1 ⟨a1,rfl,hn⟩
  have b1:=hn.below
  replace hn:=hn.back hBW
  replace hBW:=hBW.trans (b1.mono hBW.size)
  replace r00:=xQ0 b1 r00
  replace r01:=xQ0 b1 r01
  replace hR0:=xQ3 b1 hR0
  go_wp2_with fail
  refine (signed0 a1 (ln m) (ln m) _ (by omega)).mono ?_
  rintro e w2 ⟨rfl,b2⟩
  replace hBW:=hBW.trans (b2.mono hBW.size)
  replace r00:=xQ0 b2 r00
  replace r01:=xQ0 b2 r01
  replace hR0:=xQ3 b2 hR0
  replace hn:=hn.later b2
  have fz0:=fun o=>hR0.frozen o
  go_wp2
  refine bodyPost_ret (v:=.agg #[.bool false,.slice a1 (ln m) (ln m)]) (by rw [xQ5 rfl];go_simp) rfl ?_
  have:=@res_eq false a1 m _ hZ
  simp only [Bool.false_and] at this
  exact ⟨a1,this,NewI (hn.ret hB (by omega) (by omega) _ _) hZ⟩
set_option maxHeartbeats 1000000 in
theorem made_is (s:Bool) (ao:Option Addr) (n cap X:Nat) (Z:Int) (w:World) (hm:n≤70368744177664) (hS:Seg w ao X n) (hZ:sg s X=Z) :
  Calls Tryz.prog 81 #[.bool s,.slice ao n cap] w fun e w'=>∃ ao',e=.returned (.agg #[.bool (ng Z),.slice ao' (ln (am Z)) (ln (am Z))])∧New w w' ao' (am Z) (ln (am Z)):=by
 have hl:=xQ4 hS.1
 cases s
 ·go_enter Tryz.func81,Tryz.ntmps81
  go_wp2_with fail
  obtain ⟨W,hW⟩:∃ W,(w.alloc (.cells #[.bool false,.slice none 0 0] 53))=W:=⟨_,rfl⟩
  have r00:W.cell? ⟨w.heap.size,0,none⟩=some (.bool false):=by subst hW;go_simp
  have r01:W.cell? ⟨w.heap.size,1,none⟩=some (.slice none 0 0):=by subst hW;go_simp
  have hB:Below w.heap.size w W:=by subst hW;exact ((Below.refl _ _).alloc (by (try simp only [World.size_alloc]);omega) _)
  have hR0:Row W (w.heap.size):=by
   have:=xQ9 (w) #[.bool false,.slice none 0 0] 53
   try simp only [World.size_alloc] at this
   subst hW;exact this
  have hz:W.heap.size=w.heap.size+1:=by subst hW;simp only [World.size_alloc]
  rw [hW]
  clear hW
  have hBW:Below W.heap.size W W:=Below.refl _ _
  go_wp2_with fail
  refine (xX8 ao n cap X _ (by omega) (sb hS hB hBW)).mono ?_
  rintro e w1 ⟨a1,rfl,hn⟩
  have b1:=hn.below
  replace hn:=hn.back hBW
  replace hBW:=hBW.trans (b1.mono hBW.size)
  replace r00:=xQ0 b1 r00
  replace r01:=xQ0 b1 r01
  replace hR0:=xQ3 b1 hR0
  have fz0:=fun o=>hR0.frozen o
  go_wp2
  refine bodyPost_ret (v:=.agg #[.bool false,.slice a1 (ln X) (ln X)]) (by rw [xQ5 rfl];go_simp) rfl ?_
  have:=@res_eq false a1 X Z hZ
  simp only [Bool.false_and] at this
  exact ⟨a1,this,NewI (hn.ret hB (by omega) (by omega) _ _) hZ⟩
 ·by_cases h0:0 < ln X
  ·go_enter Tryz.func81,Tryz.ntmps81
   go_wp2_with fail
   obtain ⟨W,hW⟩:∃ W,(w.alloc (.cells #[.bool false,.slice none 0 0] 53))=W:=⟨_,rfl⟩
   have r00:W.cell? ⟨w.heap.size,0,none⟩=some (.bool false):=by subst hW;go_simp
   have r01:W.cell? ⟨w.heap.size,1,none⟩=some (.slice none 0 0):=by subst hW;go_simp
   have hB:Below w.heap.size w W:=by subst hW;exact ((Below.refl _ _).alloc (by (try simp only [World.size_alloc]);omega) _)
   have hR0:Row W (w.heap.size):=by
    have:=xQ9 (w) #[.bool false,.slice none 0 0] 53
    try simp only [World.size_alloc] at this
    subst hW;exact this
   have hz:W.heap.size=w.heap.size+1:=by subst hW;simp only [World.size_alloc]
   rw [hW]
   clear hW
   have hBW:Below W.heap.size W W:=Below.refl _ _
   go_wp2_with fail
   refine (xX8 ao n cap X _ (by omega) (sb hS hB hBW)).mono ?_
   rintro e w1 ⟨a1,rfl,hn⟩
   have b1:=hn.below
   replace hn:=hn.back hBW
   replace hBW:=hBW.trans (b1.mono hBW.size)
   replace r00:=xQ0 b1 r00
   replace r01:=xQ0 b1 r01
   replace hR0:=xQ3 b1 hR0
   have fz0:=fun o=>hR0.frozen o
   go_wp2
   refine bodyPost_ret (v:=.agg #[.bool true,.slice a1 (ln X) (ln X)]) (by rw [xQ5 rfl];go_simp) rfl ?_
   have:=@res_eq true a1 X Z hZ
   simp only [Bool.true_and,decide_eq_true h0] at this
   exact ⟨a1,this,NewI (hn.ret hB (by omega) (by omega) _ _) hZ⟩
  ·have hx:ln X=0:=by omega
   have HX:Hid (ln X=0):=hx
   go_enter Tryz.func81,Tryz.ntmps81
   go_wp2_with fail
   obtain ⟨W,hW⟩:∃ W,(w.alloc (.cells #[.bool false,.slice none 0 0] 53))=W:=⟨_,rfl⟩
   have r00:W.cell? ⟨w.heap.size,0,none⟩=some (.bool false):=by subst hW;go_simp
   have r01:W.cell? ⟨w.heap.size,1,none⟩=some (.slice none 0 0):=by subst hW;go_simp
   have hB:Below w.heap.size w W:=by subst hW;exact ((Below.refl _ _).alloc (by (try simp only [World.size_alloc]);omega) _)
   have hR0:Row W (w.heap.size):=by
    have:=xQ9 (w) #[.bool false,.slice none 0 0] 53
    try simp only [World.size_alloc] at this
    subst hW;exact this
   have hz:W.heap.size=w.heap.size+1:=by subst hW;simp only [World.size_alloc]
   rw [hW]
   clear hW
   have hBW:Below W.heap.size W W:=Below.refl _ _
   go_wp2_with fail
   refine (xX8 ao n cap X _ (by omega) (sb hS hB hBW)).mono ?_
   rintro e w1 ⟨a1,rfl,hn⟩
   have b1:=hn.below
   replace hn:=hn.back hBW
   replace hBW:=hBW.trans (b1.mono hBW.size)
   replace r00:=xQ0 b1 r00
   replace r01:=xQ0 b1 r01
   replace hR0:=xQ3 b1 hR0
   have fz0:=fun o=>hR0.frozen o
   go_wp2
   refine bodyPost_ret (v:=.agg #[.bool false,.slice a1 (ln X) (ln X)]) (by rw [xQ5 rfl];go_simp) rfl ?_
   have:=@res_eq true a1 X Z hZ
   simp only [Bool.true_and,decide_eq_false h0] at this
   exact ⟨a1,this,NewI (hn.ret hB (by omega) (by omega) _ _) hZ⟩
set_option maxHeartbeats 1000000 in
theorem vNorm_is (s:Bool) (ao:Option Addr) (n cap X:Nat) (Z:Int) (w:World) (hm:n≤70368744177664) (hS:Seg w ao X n) (hZ:sg s X=Z) :
  Calls Tryz.prog 62 #[.agg #[.bool s,.slice ao n cap]] w fun e w'=>∃ ao',e=.returned (.agg #[.bool (ng Z),.slice ao' (ln (am Z)) (ln (am Z))])∧New w w' ao' (am Z) (ln (am Z)):=by
 go_enter Tryz.func62,Tryz.ntmps62
 go_wp2_with fail
 obtain ⟨W,hW⟩:∃ W,((w.alloc (.cells #[.bool s,.slice ao n cap] 53)).alloc (.cells #[.bool false,.slice none 0 0] 53))=W:=⟨_,rfl⟩
 have q00:W.cell? ⟨w.heap.size,0,none⟩=some (.bool s):=by subst hW;go_simp
 have q01:W.cell? ⟨w.heap.size,1,none⟩=some (.slice ao n cap):=by subst hW;go_simp
 have r00:W.cell? ⟨w.heap.size+1,0,none⟩=some (.bool false):=by subst hW;go_simp
 have r01:W.cell? ⟨w.heap.size+1,1,none⟩=some (.slice none 0 0):=by subst hW;go_simp
 have hB:Below w.heap.size w W:=by subst hW;exact (((Below.refl _ _).alloc (by (try simp only [World.size_alloc]);omega) _).alloc (by (try simp only [World.size_alloc]);omega) _)
 have hR0:Row W (w.heap.size+1):=by
  have:=xQ9 ((w.alloc (.cells #[.bool s,.slice ao n cap] 53))) #[.bool false,.slice none 0 0] 53
  try simp only [World.size_alloc] at this
  subst hW;exact this
 have hz:W.heap.size=w.heap.size+1+1:=by subst hW;simp only [World.size_alloc]
 rw [hW]
 clear hW
 have hBW:Below W.heap.size W W:=Below.refl _ _
 go_wp2_with fail
 refine (made_is s ao n cap X Z _ hm (sb hS hB hBW) hZ).mono ?_
 rintro e w1 ⟨a1,rfl,hn⟩
 have b1:=hn.below
 replace hn:=hn.back hBW
 replace hBW:=hBW.trans (b1.mono hBW.size)
 replace q00:=xQ0 b1 q00
 replace q01:=xQ0 b1 q01
 replace r00:=xQ0 b1 r00
 replace r01:=xQ0 b1 r01
 replace hR0:=xQ3 b1 hR0
 have fz0:=fun o=>hR0.frozen o
 go_wp2
 refine bodyPost_ret (v:=.agg #[.bool (ng Z),.slice a1 (ln (am Z)) (ln (am Z))]) (by rw [xQ5 rfl];go_simp) rfl ?_
 exact ⟨a1,rfl,hn.ret hB (by omega) (by omega) _ _⟩
set_option maxHeartbeats 1000000 in
theorem vOf_is (z:Int) (w:World) (h1:-9223372036854775808≤z) (h2:z≤9223372036854775807) :
  Calls Tryz.prog 72 #[.int .i64 z] w fun e w'=>∃ ao',e=.returned (.agg #[.bool (ng z),.slice ao' (ln (am z)) (ln (am z))])∧New w w' ao' (am z) (ln (am z)):=by
 by_cases hz:z < 0
 ·obtain ⟨m,hm⟩:∃ m:Nat,z = -(m:Int):=⟨z.toNat+(-z).toNat,by omega⟩
  have hZ:sg true m=z:=by rw [hm];rfl
  have HM:Hid (z = -(m:Int)):=hm
  clear hm
  have hm63:m≤9223372036854775808:=by have:=HM.out;omega
  have hl:ln m≤2:=xQ4 (by rw [BB2];omega)
  go_enter Tryz.func72,Tryz.ntmps72
  go_wp2_with fail
  first | rw [show IntKind.u64.wrap (0 - IntKind.u64.wrap z)=(m:Int) by have:=HM.out;simp only [IntKind.wrap_u64];omega] | rw [show IntKind.u64.wrap (-IntKind.u64.wrap z)=(m:Int) by have:=HM.out;simp only [IntKind.wrap_u64];omega]
  obtain ⟨W,hW⟩:∃ W,(w.alloc (.cells #[.bool false,.slice none 0 0] 53))=W:=⟨_,rfl⟩
  have r00:W.cell? ⟨w.heap.size,0,none⟩=some (.bool false):=by subst hW;go_simp
  have r01:W.cell? ⟨w.heap.size,1,none⟩=some (.slice none 0 0):=by subst hW;go_simp
  have hB:Below w.heap.size w W:=by subst hW;exact ((Below.refl _ _).alloc (by (try simp only [World.size_alloc]);omega) _)
  have hR0:Row W (w.heap.size):=by
   have:=xQ9 (w) #[.bool false,.slice none 0 0] 53
   try simp only [World.size_alloc] at this
   subst hW;exact this
  have hz:W.heap.size=w.heap.size+1:=by subst hW;simp only [World.size_alloc]
  rw [hW]
  clear hW
  have hBW:Below W.heap.size W W:=Below.refl _ _
  go_wp2_with fail
  refine (rOf_any m _ (by omega)).mono ?_
  rintro e w1 ⟨a1,rfl,hn⟩
  have b1:=hn.below
  replace hn:=hn.back hBW
  replace hBW:=hBW.trans (b1.mono hBW.size)
  replace r00:=xQ0 b1 r00
  replace r01:=xQ0 b1 r01
  replace hR0:=xQ3 b1 hR0
  go_wp2_with fail
  refine (made_is true a1 _ _ m z _ (by omega) hn.seg hZ).mono ?_
  rintro e w2 ⟨a2,rfl,hm⟩
  have b2:=hm.below
  replace hm:=hm.back hBW
  replace hBW:=hBW.trans (b2.mono hBW.size)
  replace r00:=xQ0 b2 r00
  replace r01:=xQ0 b2 r01
  replace hR0:=xQ3 b2 hR0
  replace hn:=hn.later b2
  have fz0:=fun o=>hR0.frozen o
  go_wp2
  refine bodyPost_ret (v:=.agg #[.bool (ng z),.slice a2 (ln (am z)) (ln (am z))]) (by rw [xQ5 rfl];go_simp) rfl ?_
  exact ⟨a2,rfl,hm.ret hB (by omega) (by omega) _ _⟩
 ·obtain ⟨m,rfl⟩:∃ m:Nat,z=(m:Int):=⟨z.toNat,by omega⟩
  have hZ:sg false m=(m:Int):=rfl
  have hl:ln m≤2:=xQ4 (by rw [BB2];omega)
  go_enter Tryz.func72,Tryz.ntmps72
  go_wp2_with fail
  try rw [show IntKind.u64.wrap (m:Int)=(m:Int) by simp only [IntKind.wrap_u64];omega]
  obtain ⟨W,hW⟩:∃ W,(w.alloc (.cells #[.bool false,.slice none 0 0] 53))=W:=⟨_,rfl⟩
  have r00:W.cell? ⟨w.heap.size,0,none⟩=some (.bool false):=by subst hW;go_simp
  have r01:W.cell? ⟨w.heap.size,1,none⟩=some (.slice none 0 0):=by subst hW;go_simp
  have hB:Below w.heap.size w W:=by subst hW;exact ((Below.refl _ _).alloc (by (try simp only [World.size_alloc]);omega) _)
  have hR0:Row W (w.heap.size):=by
   have:=xQ9 (w) #[.bool false,.slice none 0 0] 53
   try simp only [World.size_alloc] at this
   subst hW;exact this
  have hz:W.heap.size=w.heap.size+1:=by subst hW;simp only [World.size_alloc]
  rw [hW]
  clear hW
  have hBW:Below W.heap.size W W:=Below.refl _ _
  go_wp2_with fail
  refine (rOf_any m _ (by omega)).mono ?_
  rintro e w1 ⟨a1,rfl,hn⟩
  have b1:=hn.below
  replace hn:=hn.back hBW
  replace hBW:=hBW.trans (b1.mono hBW.size)
  replace r00:=xQ0 b1 r00
  replace r01:=xQ0 b1 r01
  replace hR0:=xQ3 b1 hR0
  go_wp2_with fail
  refine (made_is false a1 _ _ m m _ (by omega) hn.seg hZ).mono ?_
  rintro e w2 ⟨a2,rfl,hm⟩
  have b2:=hm.below
  replace hm:=hm.back hBW
  replace hBW:=hBW.trans (b2.mono hBW.size)
  replace r00:=xQ0 b2 r00
  replace r01:=xQ0 b2 r01
  replace hR0:=xQ3 b2 hR0
  replace hn:=hn.later b2
  have fz0:=fun o=>hR0.frozen o
  go_wp2
  refine bodyPost_ret (v:=.agg #[.bool (ng m),.slice a2 (ln (am m)) (ln (am m))]) (by rw [xQ5 rfl];go_simp) rfl ?_
  exact ⟨a2,rfl,hm.ret hB (by omega) (by omega) _ _⟩
set_option maxHeartbeats 1000000 in
theorem vSign_is (s:Bool) (ao:Option Addr) (n cap X:Nat) (Z:Int) (w:World) (hm:n≤70368744177664) (hS:Seg w ao X n) (hZ:sg s X=Z) :
  Calls Tryz.prog 43 #[.agg #[.bool s,.slice ao n cap]] w fun e w'=>e=.returned (.int .i64 (sgn Z))∧Below w.heap.size w w':=by
 have hB:=xQ2 (w:=w) (.cells #[.bool s,.slice ao n cap] 53)
 have hpos:Z≠0→0 < ln (am Z):=fun h=>Nat.pos_of_ne_zero fun e=>h (am_eq_zero.1 (ln_eq_zero.1 e))
 have hlz:ln (am Z)≤70368744177664:=by rw [←hZ,am_sg];have:=xQ4 hS.1;omega
 rcases Int.lt_trichotomy Z 0 with h | h | h
 ·have hg:ng Z=true:=ng_true.2 h
  have hs:=sgn_neg h
  clear h
  go_enter Tryz.func43,Tryz.ntmps43
  go_wp2_with fail
  refine (vNorm_is s ao n cap X Z _ hm (hS.below hB (Nat.le_refl _)) hZ).mono ?_
  rintro e w1 ⟨a1,rfl,hn⟩
  have hB1:=hB.trans (hn.below.mono hB.size)
  have hB2:=hB1.alloc hB1.size (.cells #[.bool (ng Z),.slice a1 (ln (am Z)) (ln (am Z))] 53)
  rw [hg] at hB2
  go_wp2
  go_ret
  exact ⟨by rw [hs];rfl,hB2⟩
 ·have hg:ng Z=false:=by rw [h];rfl
  have hs:sgn Z=0:=by rw [h];rfl
  have hl:ln (am Z)=0:=by rw [h];exact xX7
  clear h
  go_enter Tryz.func43,Tryz.ntmps43
  go_wp2_with fail
  refine (vNorm_is s ao n cap X Z _ hm (hS.below hB (Nat.le_refl _)) hZ).mono ?_
  rintro e w1 ⟨a1,rfl,hn⟩
  have hB1:=hB.trans (hn.below.mono hB.size)
  have hB2:=hB1.alloc hB1.size (.cells #[.bool (ng Z),.slice a1 (ln (am Z)) (ln (am Z))] 53)
  rw [hg,hl] at hB2
  go_wp2
  go_ret
  exact ⟨by rw [hs];rfl,hB2⟩
 ·have hg:ng Z=false:=ng_false.2 (by omega)
  have hs:=sgn_pos h
  have hl:=hpos (by omega)
  clear h
  go_enter Tryz.func43,Tryz.ntmps43
  go_wp2_with fail
  refine (vNorm_is s ao n cap X Z _ hm (hS.below hB (Nat.le_refl _)) hZ).mono ?_
  rintro e w1 ⟨a1,rfl,hn⟩
  have hB1:=hB.trans (hn.below.mono hB.size)
  have hB2:=hB1.alloc hB1.size (.cells #[.bool (ng Z),.slice a1 (ln (am Z)) (ln (am Z))] 53)
  rw [hg] at hB2
  go_wp2
  go_ret
  exact ⟨by rw [hs];rfl,hB2⟩
set_option maxHeartbeats 2000000 in
set_option maxRecDepth 30000 in
theorem vAdd_is (s:Bool) (ao:Option Addr) (n cap X:Nat) (t:Bool) (ao2:Option Addr) (m cap2 Y:Nat) (Z:Int) (w:World) (hm:n≤70368744177663) (hS:Seg w ao X n) (hm2:m≤70368744177663) (hS2:Seg w ao2 Y m) (hZ:sg s X+sg t Y=Z) :
  Calls Tryz.prog 66 #[.agg #[.bool s,.slice ao n cap],.agg #[.bool t,.slice ao2 m cap2]] w fun e w'=>∃ ao',e=.returned (.agg #[.bool (ng Z),.slice ao' (ln (am Z)) (ln (am Z))])∧New w w' ao' (am Z) (ln (am Z)):=by
 have hl1:=xQ4 hS.1
 have hl2:=xQ4 hS2.1
 have hl3:ln (X+Y)≤70368744177664:=ln_sum hS.1 hS2.1 (by omega) (by omega)
 by_cases ht:s=t
 ·subst ht
  have hZ2:sg s (X+Y)=Z:=by rw [←sg_add];exact hZ
  have hbe:(s == s)=true:=by simp
  go_enter Tryz.func66,Tryz.ntmps66
  go_wp2_with fail
  obtain ⟨W,hW⟩:∃ W,(((w.alloc (.cells #[.bool s,.slice ao n cap] 53)).alloc (.cells #[.bool s,.slice ao2 m cap2] 53)).alloc (.cells #[.bool false,.slice none 0 0] 53))=W:=⟨_,rfl⟩
  have q00:W.cell? ⟨w.heap.size,0,none⟩=some (.bool s):=by subst hW;go_simp
  have q01:W.cell? ⟨w.heap.size,1,none⟩=some (.slice ao n cap):=by subst hW;go_simp
  have q10:W.cell? ⟨w.heap.size+1,0,none⟩=some (.bool s):=by subst hW;go_simp
  have q11:W.cell? ⟨w.heap.size+1,1,none⟩=some (.slice ao2 m cap2):=by subst hW;go_simp
  have r00:W.cell? ⟨w.heap.size+1+1,0,none⟩=some (.bool false):=by subst hW;go_simp
  have r01:W.cell? ⟨w.heap.size+1+1,1,none⟩=some (.slice none 0 0):=by subst hW;go_simp
  have hB:Below w.heap.size w W:=by subst hW;exact ((((Below.refl _ _).alloc (by (try simp only [World.size_alloc]);omega) _).alloc (by (try simp only [World.size_alloc]);omega) _).alloc (by (try simp only [World.size_alloc]);omega) _)
  have hR0:Row W (w.heap.size+1+1):=by
   have:=xQ9 (((w.alloc (.cells #[.bool s,.slice ao n cap] 53)).alloc (.cells #[.bool s,.slice ao2 m cap2] 53))) #[.bool false,.slice none 0 0] 53
   try simp only [World.size_alloc] at this
   subst hW;exact this
  have hz:W.heap.size=w.heap.size+1+1+1:=by subst hW;simp only [World.size_alloc]
  rw [hW]
  clear hW
  have hBW:Below W.heap.size W W:=Below.refl _ _
  replace hBW:=hBW.drew
  first
   | go_region_held3 (fun w'=>w'.cell? ⟨w.heap.size,0,none⟩=some (.bool s)∧w'.cell? ⟨w.heap.size,1,none⟩=some (.slice ao n cap)∧w'.cell? ⟨w.heap.size+1,0,none⟩=some (.bool s)∧w'.cell? ⟨w.heap.size+1,1,none⟩=some (.slice ao2 m cap2)∧Below w.heap.size w w')
     (first | exact ⟨q00,q01,q10,q11,hB.trans (hBW.mono hB.size)⟩ | exact kp4 b1 (by assumption) | exact kp4 b2 (by assumption) | exact kp4 (xQ2 _) (by assumption) | exact kpS4 (kpS4 (by assumption) (by omega) (by omega) (by omega)) (by omega) (by omega) (by omega))
     (first
      | (go_at_call 87;(fail_if_success clear b1);refine (rAdd_any ao ao2 n cap X m cap2 Y _ hm (sb hS hB hBW) hm2 (sb hS2 hB hBW)).mono ?_;rintro e w1 ⟨a1,rfl,hn⟩;have b1:=hn.below;replace hn:=hn.back hBW;replace hBW:=hBW.trans (b1.mono hBW.size);replace q00:=xQ0 b1 q00;replace q01:=xQ0 b1 q01;replace q10:=xQ0 b1 q10;replace q11:=xQ0 b1 q11;replace r00:=xQ0 b1 r00;replace r01:=xQ0 b1 r01;replace hR0:=xQ3 b1 hR0)
      | (go_at_call 81;(fail_if_success clear b2);refine (made_is s a1 _ _ (X+Y) Z _ (by omega) hn.seg hZ2).mono ?_;rintro e w2 ⟨a2,rfl,hk⟩;have b2:=hk.below;replace hk:=hk.back hBW;replace hBW:=hBW.trans (b2.mono hBW.size);replace q00:=xQ0 b2 q00;replace q01:=xQ0 b2 q01;replace q10:=xQ0 b2 q10;replace q11:=xQ0 b2 q11;replace r00:=xQ0 b2 r00;replace r01:=xQ0 b2 r01;replace hR0:=xQ3 b2 hR0;replace hn:=hn.later b2;have fz:=fun o=>hR0.frozen o))
   | fail
  go_wp2
  refine bodyPost_ret (v:=.agg #[.bool (ng Z),.slice a2 (ln (am Z)) (ln (am Z))]) (by rw [xQ5 rfl];go_simp) rfl ?_
  exact ⟨a2,rfl,hk.ret hB (by omega) (by omega) _ _⟩
 ·have hbe:(s == t)=false:=by simpa using ht
  by_cases hle:Y≤X
  ·have hZ2:sg s (X - Y)=Z:=by rw [←hZ];exact (sg_sub ht hle).symm
   have hcmp:0≤cmpI X Y:=by rw [cmpI];rw [if_neg (by omega)];split <;> omega
   have HL:Hid (Y≤X):=hle
   have hl4:ln (X - Y)≤70368744177664:=by have:=xZ4 (Nat.sub_le X Y);omega
   clear hle ht
   go_enter Tryz.func66,Tryz.ntmps66
   go_wp2_with fail
   obtain ⟨W,hW⟩:∃ W,(((w.alloc (.cells #[.bool s,.slice ao n cap] 53)).alloc (.cells #[.bool t,.slice ao2 m cap2] 53)).alloc (.cells #[.bool false,.slice none 0 0] 53))=W:=⟨_,rfl⟩
   have q00:W.cell? ⟨w.heap.size,0,none⟩=some (.bool s):=by subst hW;go_simp
   have q01:W.cell? ⟨w.heap.size,1,none⟩=some (.slice ao n cap):=by subst hW;go_simp
   have q10:W.cell? ⟨w.heap.size+1,0,none⟩=some (.bool t):=by subst hW;go_simp
   have q11:W.cell? ⟨w.heap.size+1,1,none⟩=some (.slice ao2 m cap2):=by subst hW;go_simp
   have r00:W.cell? ⟨w.heap.size+1+1,0,none⟩=some (.bool false):=by subst hW;go_simp
   have r01:W.cell? ⟨w.heap.size+1+1,1,none⟩=some (.slice none 0 0):=by subst hW;go_simp
   have hB:Below w.heap.size w W:=by subst hW;exact ((((Below.refl _ _).alloc (by (try simp only [World.size_alloc]);omega) _).alloc (by (try simp only [World.size_alloc]);omega) _).alloc (by (try simp only [World.size_alloc]);omega) _)
   have hR0:Row W (w.heap.size+1+1):=by
    have:=xQ9 (((w.alloc (.cells #[.bool s,.slice ao n cap] 53)).alloc (.cells #[.bool t,.slice ao2 m cap2] 53))) #[.bool false,.slice none 0 0] 53
    try simp only [World.size_alloc] at this
    subst hW;exact this
   have hz:W.heap.size=w.heap.size+1+1+1:=by subst hW;simp only [World.size_alloc]
   rw [hW]
   clear hW
   have hBW:Below W.heap.size W W:=Below.refl _ _
   refine (rCmp_any ao ao2 n cap X m cap2 Y _ (by omega) (sb hS hB hBW) (by omega) (sb hS2 hB hBW)).mono ?_
   rintro e w1 ⟨rfl,rfl⟩
   go_wp2_with fail
   refine (rSub_any ao ao2 n cap X m cap2 Y _ (by omega) (sb hS hB hBW) (by omega) (sb hS2 hB hBW) HL.out).mono ?_
   rintro e w2 ⟨a2,rfl,hn⟩
   have b2:=hn.below
   replace hn:=hn.back hBW
   replace hBW:=hBW.trans (b2.mono hBW.size)
   replace q00:=xQ0 b2 q00
   replace q01:=xQ0 b2 q01
   replace q10:=xQ0 b2 q10
   replace q11:=xQ0 b2 q11
   replace r00:=xQ0 b2 r00
   replace r01:=xQ0 b2 r01
   replace hR0:=xQ3 b2 hR0
   go_wp2_with fail
   refine (made_is s a2 _ _ (X - Y) Z _ (by omega) hn.seg hZ2).mono ?_
   rintro e w3 ⟨a3,rfl,hk⟩
   have b3:=hk.below
   replace hk:=hk.back hBW
   replace hBW:=hBW.trans (b3.mono hBW.size)
   replace q00:=xQ0 b3 q00
   replace q01:=xQ0 b3 q01
   replace q10:=xQ0 b3 q10
   replace q11:=xQ0 b3 q11
   replace r00:=xQ0 b3 r00
   replace r01:=xQ0 b3 r01
   replace hR0:=xQ3 b3 hR0
   replace hn:=hn.later b3
   have fz0:=fun o=>hR0.frozen o
   go_wp2
   refine bodyPost_ret (v:=.agg #[.bool (ng Z),.slice a3 (ln (am Z)) (ln (am Z))]) (by rw [xQ5 rfl];go_simp) rfl ?_
   exact ⟨a3,rfl,hk.ret hB (by omega) (by omega) _ _⟩
  ·have hlt:X < Y:=Nat.lt_of_not_le hle
   have hZ2:sg t (Y - X)=Z:=by rw [←hZ];exact (sg_sub' ht (Nat.le_of_lt hlt)).symm
   have hcmp:cmpI X Y < 0:=by rw [cmpI_lt hlt];omega
   have HL:Hid (X < Y):=hlt
   have hl4:ln (Y - X)≤70368744177664:=by have:=xZ4 (Nat.sub_le Y X);omega
   clear hle hlt ht
   go_enter Tryz.func66,Tryz.ntmps66
   go_wp2_with fail
   obtain ⟨W,hW⟩:∃ W,(((w.alloc (.cells #[.bool s,.slice ao n cap] 53)).alloc (.cells #[.bool t,.slice ao2 m cap2] 53)).alloc (.cells #[.bool false,.slice none 0 0] 53))=W:=⟨_,rfl⟩
   have q00:W.cell? ⟨w.heap.size,0,none⟩=some (.bool s):=by subst hW;go_simp
   have q01:W.cell? ⟨w.heap.size,1,none⟩=some (.slice ao n cap):=by subst hW;go_simp
   have q10:W.cell? ⟨w.heap.size+1,0,none⟩=some (.bool t):=by subst hW;go_simp
   have q11:W.cell? ⟨w.heap.size+1,1,none⟩=some (.slice ao2 m cap2):=by subst hW;go_simp
   have r00:W.cell? ⟨w.heap.size+1+1,0,none⟩=some (.bool false):=by subst hW;go_simp
   have r01:W.cell? ⟨w.heap.size+1+1,1,none⟩=some (.slice none 0 0):=by subst hW;go_simp
   have hB:Below w.heap.size w W:=by subst hW;exact ((((Below.refl _ _).alloc (by (try simp only [World.size_alloc]);omega) _).alloc (by (try simp only [World.size_alloc]);omega) _).alloc (by (try simp only [World.size_alloc]);omega) _)
   have hR0:Row W (w.heap.size+1+1):=by
    have:=xQ9 (((w.alloc (.cells #[.bool s,.slice ao n cap] 53)).alloc (.cells #[.bool t,.slice ao2 m cap2] 53))) #[.bool false,.slice none 0 0] 53
    try simp only [World.size_alloc] at this
    subst hW;exact this
   have hz:W.heap.size=w.heap.size+1+1+1:=by subst hW;simp only [World.size_alloc]
   rw [hW]
   clear hW
   have hBW:Below W.heap.size W W:=Below.refl _ _
   refine (rCmp_any ao ao2 n cap X m cap2 Y _ (by omega) (sb hS hB hBW) (by omega) (sb hS2 hB hBW)).mono ?_
   rintro e w1 ⟨rfl,rfl⟩
   go_wp2_with fail
   refine (rSub_any ao2 ao m cap2 Y n cap X _ (by omega) (sb hS2 hB hBW) (by omega) (sb hS hB hBW) (Nat.le_of_lt HL.out)).mono ?_
   rintro e w2 ⟨a2,rfl,hn⟩
   have b2:=hn.below
   replace hn:=hn.back hBW
   replace hBW:=hBW.trans (b2.mono hBW.size)
   replace q00:=xQ0 b2 q00
   replace q01:=xQ0 b2 q01
   replace q10:=xQ0 b2 q10
   replace q11:=xQ0 b2 q11
   replace r00:=xQ0 b2 r00
   replace r01:=xQ0 b2 r01
   replace hR0:=xQ3 b2 hR0
   go_wp2_with fail
   refine (made_is t a2 _ _ (Y - X) Z _ (by omega) hn.seg hZ2).mono ?_
   rintro e w3 ⟨a3,rfl,hk⟩
   have b3:=hk.below
   replace hk:=hk.back hBW
   replace hBW:=hBW.trans (b3.mono hBW.size)
   replace q00:=xQ0 b3 q00
   replace q01:=xQ0 b3 q01
   replace q10:=xQ0 b3 q10
   replace q11:=xQ0 b3 q11
   replace r00:=xQ0 b3 r00
   replace r01:=xQ0 b3 r01
   replace hR0:=xQ3 b3 hR0
   replace hn:=hn.later b3
   have fz0:=fun o=>hR0.frozen o
   go_wp2
   refine bodyPost_ret (v:=.agg #[.bool (ng Z),.slice a3 (ln (am Z)) (ln (am Z))]) (by rw [xQ5 rfl];go_simp) rfl ?_
   exact ⟨a3,rfl,hk.ret hB (by omega) (by omega) _ _⟩
set_option maxHeartbeats 2000000 in
set_option maxRecDepth 30000 in
theorem vMul_is (s:Bool) (ao:Option Addr) (n cap X:Nat) (t:Bool) (ao2:Option Addr) (m cap2 Y:Nat) (Z:Int) (w:World) (hm:n+m≤70368744177664) (hS:Seg w ao X n) (hS2:Seg w ao2 Y m) (hZ:sg s X*sg t Y=Z) :
  Calls Tryz.prog 67 #[.agg #[.bool s,.slice ao n cap],.agg #[.bool t,.slice ao2 m cap2]] w fun e w'=>∃ ao',e=.returned (.agg #[.bool (ng Z),.slice ao' (ln (am Z)) (ln (am Z))])∧New w w' ao' (am Z) (ln (am Z)):=by
 have hZ2:sg (s != t) (X*Y)=Z:=by rw [←sg_mul];exact hZ
 have hl3:ln (X*Y)≤70368744177664:=by have:=ln_prod hS.1 hS2.1;omega
 obtain ⟨P,hP⟩:∃ P,X*Y=P:=⟨_,rfl⟩
 rw [hP] at hZ2 hl3
 go_enter Tryz.func67,Tryz.ntmps67
 go_wp2_with fail
 obtain ⟨W,hW⟩:∃ W,(((w.alloc (.cells #[.bool s,.slice ao n cap] 53)).alloc (.cells #[.bool t,.slice ao2 m cap2] 53)).alloc (.cells #[.bool false,.slice none 0 0] 53))=W:=⟨_,rfl⟩
 have q00:W.cell? ⟨w.heap.size,0,none⟩=some (.bool s):=by subst hW;go_simp
 have q01:W.cell? ⟨w.heap.size,1,none⟩=some (.slice ao n cap):=by subst hW;go_simp
 have q10:W.cell? ⟨w.heap.size+1,0,none⟩=some (.bool t):=by subst hW;go_simp
 have q11:W.cell? ⟨w.heap.size+1,1,none⟩=some (.slice ao2 m cap2):=by subst hW;go_simp
 have r00:W.cell? ⟨w.heap.size+1+1,0,none⟩=some (.bool false):=by subst hW;go_simp
 have r01:W.cell? ⟨w.heap.size+1+1,1,none⟩=some (.slice none 0 0):=by subst hW;go_simp
 have hB:Below w.heap.size w W:=by subst hW;exact ((((Below.refl _ _).alloc (by (try simp only [World.size_alloc]);omega) _).alloc (by (try simp only [World.size_alloc]);omega) _).alloc (by (try simp only [World.size_alloc]);omega) _)
 have hR0:Row W (w.heap.size+1+1):=by
  have:=xQ9 (((w.alloc (.cells #[.bool s,.slice ao n cap] 53)).alloc (.cells #[.bool t,.slice ao2 m cap2] 53))) #[.bool false,.slice none 0 0] 53
  try simp only [World.size_alloc] at this
  subst hW;exact this
 have hz:W.heap.size=w.heap.size+1+1+1:=by subst hW;simp only [World.size_alloc]
 rw [hW]
 clear hW
 have hBW:Below W.heap.size W W:=Below.refl _ _
 replace hBW:=hBW.drew
 first
  | go_region_held3 (fun w'=>w'.cell? ⟨w.heap.size,0,none⟩=some (.bool s)∧w'.cell? ⟨w.heap.size,1,none⟩=some (.slice ao n cap)∧w'.cell? ⟨w.heap.size+1,0,none⟩=some (.bool t)∧w'.cell? ⟨w.heap.size+1,1,none⟩=some (.slice ao2 m cap2)∧Below w.heap.size w w')
    (first | exact ⟨q00,q01,q10,q11,hB.trans (hBW.mono hB.size)⟩ | exact kp4 b1 (by assumption) | exact kp4 b2 (by assumption) | exact kp4 (xQ2 _) (by assumption) | exact kpS4 (kpS4 (by assumption) (by omega) (by omega) (by omega)) (by omega) (by omega) (by omega))
    (first
     | (go_at_call 69;(fail_if_success clear b1);refine (rMul_is ao ao2 n cap X m cap2 Y P _ hm (sb hS hB hBW) (sb hS2 hB hBW) hP).mono ?_;rintro e w1 ⟨a1,rfl,hn⟩;have b1:=hn.below;replace hn:=hn.back hBW;replace hBW:=hBW.trans (b1.mono hBW.size);replace q00:=xQ0 b1 q00;replace q01:=xQ0 b1 q01;replace q10:=xQ0 b1 q10;replace q11:=xQ0 b1 q11;replace r00:=xQ0 b1 r00;replace r01:=xQ0 b1 r01;replace hR0:=xQ3 b1 hR0)
     | (go_at_call 81;(fail_if_success clear b2);refine (made_is (s != t) a1 _ _ P Z _ (by omega) hn.seg hZ2).mono ?_;rintro e w2 ⟨a2,rfl,hk⟩;have b2:=hk.below;replace hk:=hk.back hBW;replace hBW:=hBW.trans (b2.mono hBW.size);replace q00:=xQ0 b2 q00;replace q01:=xQ0 b2 q01;replace q10:=xQ0 b2 q10;replace q11:=xQ0 b2 q11;replace r00:=xQ0 b2 r00;replace r01:=xQ0 b2 r01;replace hR0:=xQ3 b2 hR0;replace hn:=hn.later b2;have fz:=fun o=>hR0.frozen o))
  | fail
 go_wp2
 refine bodyPost_ret (v:=.agg #[.bool (ng Z),.slice a2 (ln (am Z)) (ln (am Z))]) (by rw [xQ5 rfl];go_simp) rfl ?_
 exact ⟨a2,rfl,hk.ret hB (by omega) (by omega) _ _⟩
end Go.Proofs.YtgfmaejhdbmkoaaGreat
