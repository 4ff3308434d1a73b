import Derived.Test.YtgfmaejhdbmkoaaGreatNumM
import Derived.Test.YtgfmaejhdbmkoaaGreatW11
import Derived.Test.YtgfmaejhdbmkoaaGreatProg
import Derived.OrdersHeld
import Derived.Deep.RegionHeld3
import Derived.Deep.LoopGhost
import Derived.Test.YtgfmaejhdbmkoaaGreatWI1
import Derived.Test.YtgfmaejhdbmkoaaGreatWI4
import Derived.Test.YtgfmaejhdbmkoaaGreatNumQ
set_option linter.unusedSimpArgs false
namespace Go.Proofs.YtgfmaejhdbmkoaaGreat
structure Leh (X Y xh yh x y u0 v0 u1 v1:Nat) (ev:Bool):Prop where
 bx:x*v1+y*v0=xh
 bv:x*u1+y*u0=yh
 le:y≤x
 v1p:1≤v1
 v01:v0≤v1
 uv1:u1≤v1
 uv0:(v0=0∧u0=1∧u1=0∧v1=1∧ev=false)∨(1≤v0∧u0≤v0)
 det:(ev=true∧u1*v0=u0*v1+1)∨(ev=false∧u0*v1=u1*v0+1)
 low:v0=0∨(ev=true∧v0*Y≤u0*X+Y)∨(ev=false∧u0*X≤v0*Y+Y)
def Told (X Y um vm u0 v0:Nat) (ev:Bool):Prop :=
 vm=0∨(um < 4294967296∧vm < 4294967296∧u0 < 4294967296∧v0 < 4294967296 ∧
  ∃ P Q,Q < P∧P≤Y∧Nat.gcd P Q=Nat.gcd X Y∧((ev=true∧P+vm*Y=um*X∧Q+u0*X=v0*Y)∨(ev=false∧P+um*X=vm*Y∧Q+v0*Y=u0*X)))
theorem leh_start {X Y xh yh:Nat} (h:yh≤xh):Leh X Y xh yh xh yh 1 0 0 1 false :=
 ⟨by simp,by simp,h,Nat.le_refl _,by omega,by omega,Or.inl ⟨rfl,rfl,rfl,rfl,rfl⟩,Or.inr ⟨rfl,by simp⟩,Or.inl rfl⟩
theorem gcd_keep {a b c d P Q X Y:Nat} (h1:P+b*Y=a*X) (h2:Q+d*X=c*Y) (h3:a*c=b*d+1):Nat.gcd P Q=Nat.gcd X Y:=by
 have hX:X=c*P+b*Q:=by grind
 have hY:Y=d*P+a*Q:=by grind
 apply Nat.dvd_antisymm
 ·refine Nat.dvd_gcd ?_ ?_
  ·rw [hX];exact Nat.dvd_add (Nat.dvd_mul_left_of_dvd (Nat.gcd_dvd_left P Q) c) (Nat.dvd_mul_left_of_dvd (Nat.gcd_dvd_right P Q) b)
  ·rw [hY];exact Nat.dvd_add (Nat.dvd_mul_left_of_dvd (Nat.gcd_dvd_left P Q) d) (Nat.dvd_mul_left_of_dvd (Nat.gcd_dvd_right P Q) a)
 ·refine Nat.dvd_gcd ?_ ?_
  ·have h4:Nat.gcd X Y ∣ P+b*Y:=by rw [h1];exact Nat.dvd_mul_left_of_dvd (Nat.gcd_dvd_left X Y) a
   exact (Nat.dvd_add_iff_left (Nat.dvd_mul_left_of_dvd (Nat.gcd_dvd_right X Y) b)).2 h4
  ·have h4:Nat.gcd X Y ∣ Q+d*X:=by rw [h2];exact Nat.dvd_mul_left_of_dvd (Nat.gcd_dvd_right X Y) c
   exact (Nat.dvd_add_iff_left (Nat.dvd_mul_left_of_dvd (Nat.gcd_dvd_left X Y) d)).2 h4
theorem sq_lt {v x:Nat} (h:v≤x) (hb:x*v < 18446744073709551616):v < 4294967296:=by
 by_cases hc:v < 4294967296
 ·exact hc
 ·have h1:4294967296*4294967296≤x*v:=Nat.mul_le_mul (by omega) (by omega)
  omega
theorem leh_even {X Y H xh yh x y u0 v0 u1 v1 xl yl:Nat} (hX:X=xh*H+xl) (hY:Y=yh*H+yl) (hxl:xl < H) (hyl:yl < H)
  (bx:x*v1+y*v0=xh) (bv:x*u1+y*u0=yh) (det:u0*v1=u1*v0+1) (uv1:u1≤v1) (v1p:1≤v1) (c1:v1≤y) (c2:v0+v1+y≤x) :
  v0*Y≤u0*X∧u1*X≤v1*Y∧v1*Y+v0*Y < u0*X+u1*X:=by
 have e1:u0*xh=x+v0*yh:=by grind
 have e2:v1*yh=y+u1*xh:=by grind
 have a1:u0*X=x*H+v0*yh*H+u0*xl:=by grind
 have a2:v0*Y=v0*yh*H+v0*yl:=by grind
 have a3:v1*Y=y*H+u1*xh*H+v1*yl:=by grind
 have a4:u1*X=u1*xh*H+u1*xl:=by grind
 have b1:v0*yl≤v0*H:=Nat.mul_le_mul_left _ (by omega)
 have b2:v0*H≤x*H:=Nat.mul_le_mul_right _ (by omega)
 have b3:u1*xl≤y*H:=Nat.mul_le_mul (by omega) (by omega)
 have b4:(v0+v1)*yl < (v0+v1)*H:=Nat.mul_lt_mul_of_pos_left hyl (by omega)
 have b5:(v0+v1+y)*H≤x*H:=Nat.mul_le_mul_right _ c2
 rw [Nat.add_mul] at b4 b5
 rw [Nat.add_mul] at b4 b5
 refine ⟨by omega,by omega,by omega⟩
theorem leh_odd {X Y H xh yh x y u0 v0 u1 v1 xl yl:Nat} (hX:X=xh*H+xl) (hY:Y=yh*H+yl) (hxl:xl < H) (hyl:yl < H)
  (bx:x*v1+y*v0=xh) (bv:x*u1+y*u0=yh) (det:u1*v0=u0*v1+1) (uv1:u1≤v1) (uv0:u0≤v0) (v1p:1≤v1) (c1:v1≤y) (c2:v0+v1+y≤x) :
  u0*X≤v0*Y∧v1*Y≤u1*X∧u1*X+u0*X < v0*Y+v1*Y:=by
 have e1:v0*yh=x+u0*xh:=by grind
 have e2:u1*xh=y+v1*yh:=by grind
 have a1:v0*Y=x*H+u0*xh*H+v0*yl:=by grind
 have a2:u0*X=u0*xh*H+u0*xl:=by grind
 have a3:u1*X=y*H+v1*yh*H+u1*xl:=by grind
 have a4:v1*Y=v1*yh*H+v1*yl:=by grind
 have b1:u0*xl≤x*H:=Nat.mul_le_mul (by omega) (by omega)
 have b3:v1*yl≤y*H:=Nat.mul_le_mul (by omega) (by omega)
 have b4:(v0+v1)*xl < (v0+v1)*H:=Nat.mul_lt_mul_of_pos_left hxl (by omega)
 have b6:(u0+u1)*xl≤(v0+v1)*xl:=Nat.mul_le_mul_right _ (by omega)
 have b5:(v0+v1+y)*H≤x*H:=Nat.mul_le_mul_right _ c2
 rw [Nat.add_mul] at b4 b5
 rw [Nat.add_mul] at b4 b5
 rw [Nat.add_mul,Nat.add_mul] at b6
 refine ⟨by omega,by omega,by omega⟩
theorem leh_bounds {X Y xh yh x y u0 v0 u1 v1:Nat} {ev:Bool} (L:Leh X Y xh yh x y u0 v0 u1 v1 ev) (hxh:xh < 18446744073709551616) (hle:yh≤xh) (c1:v1≤y) :
  u0 < 4294967296∧v0 < 4294967296∧u1 < 4294967296∧v1 < 4294967296∧u0+x / y*u1 < 18446744073709551616∧v0+x / y*v1 < 18446744073709551616:=by
 obtain ⟨bx,bv,le,v1p,v01,uv1,uv0,det,low⟩:=L
 have h1:x*v1≤xh:=by omega
 have hv:v1 < 4294967296:=sq_lt (by omega) (Nat.lt_of_le_of_lt h1 hxh)
 have hq:x / y*y≤x:=Nat.div_mul_le_self x y
 have h2:y*(v0+x / y*v1)≤xh:=by
  have:x / y*y*v1≤x*v1:=Nat.mul_le_mul_right _ hq
  grind
 have h3:y*(u0+x / y*u1)≤yh:=by
  have:x / y*y*u1≤x*u1:=Nat.mul_le_mul_right _ hq
  grind
 have h4:1*(v0+x / y*v1)≤y*(v0+x / y*v1):=Nat.mul_le_mul_right _ (by omega)
 have h5:1*(u0+x / y*u1)≤y*(u0+x / y*u1):=Nat.mul_le_mul_right _ (by omega)
 rw [Nat.one_mul] at h4 h5
 refine ⟨?_,by omega,by omega,hv,by omega,by omega⟩
 rcases uv0 with h | h <;> omega
theorem leh_step {X Y H xh yh x y u0 v0 u1 v1 xl yl:Nat} {ev:Bool} (hX:X=xh*H+xl) (hY:Y=yh*H+yl) (hxl:xl < H) (hyl:yl < H) (hxh:xh < 18446744073709551616) (hle:yh≤xh)
  (L:Leh X Y xh yh x y u0 v0 u1 v1 ev) (c1:v1≤y) (c2:v0+v1+y≤x) :
  Leh X Y xh yh y (x % y) u1 v1 (u0+x / y*u1) (v0+x / y*v1) (!ev)∧Told X Y u0 v0 u1 v1 (!ev):=by
 have hb:=leh_bounds L hxh hle c1
 obtain ⟨bx,bv,le,v1p,v01,uv1,uv0,det,low⟩:=L
 have hy:0 < y:=by omega
 have hdm:=Nat.div_add_mod x y
 have hq:1≤x / y:=(Nat.le_div_iff_mul_le hy).2 (by omega)
 have hqv:1*v1≤x / y*v1:=Nat.mul_le_mul_right _ hq
 have hqu:x / y*u1≤x / y*v1:=Nat.mul_le_mul_left _ uv1
 have hm:x % y < y:=Nat.mod_lt _ hy
 generalize x / y=q at *
 generalize x % y=r at *
 have huv:u0+q*u1≤v0+q*v1:=by
  rcases uv0 with ⟨rfl,rfl,rfl,rfl,-⟩ | h <;> omega
 have hlow:(ev=false∧v1*Y≤u1*X+Y)∨(ev=true∧u1*X≤v1*Y+Y):=by
  rcases det with ⟨he,hd⟩ | ⟨he,hd⟩
  ·right
   refine ⟨he,?_⟩
   rcases uv0 with ⟨_,_,_,_,h5⟩ | h
   ·rw [he] at h5;cases h5
   ·obtain ⟨k1,k2,k3⟩:=leh_odd hX hY hxl hyl bx bv hd uv1 h.2 v1p c1 c2
    rcases low with h6 | h6 | h6
    ·omega
    ·omega
    ·rw [he] at h6;cases h6.1
  ·left
   refine ⟨he,?_⟩
   obtain ⟨k1,k2,k3⟩:=leh_even hX hY hxl hyl bx bv hd uv1 v1p c1 c2
   rcases uv0 with ⟨h1,h2,h3,h4,h5⟩ | h
   ·rw [h4,h3];omega
   ·rcases low with h6 | h6 | h6
    ·omega
    ·rw [he] at h6;cases h6.1
    ·omega
 refine ⟨⟨by grind,by grind,by omega,by omega,by omega,huv,Or.inr ⟨v1p,uv1⟩,?_,?_⟩,?_⟩
 ·rcases det with ⟨he,hd⟩ | ⟨he,hd⟩
  ·right;exact ⟨by rw [he];rfl,by grind⟩
  ·left;exact ⟨by rw [he];rfl,by grind⟩
 ·rcases hlow with ⟨he,h⟩ | ⟨he,h⟩
  ·right;left;exact ⟨by rw [he];rfl,h⟩
  ·right;right;exact ⟨by rw [he];rfl,h⟩
 ·by_cases hv0:v0=0
  ·exact Or.inl hv0
  ·right
   have hu:1≤v0∧u0≤v0:=by rcases uv0 with h | h <;> omega
   refine ⟨hb.1,hb.2.1,hb.2.2.1,hb.2.2.2.1,?_⟩
   rcases det with ⟨he,hd⟩ | ⟨he,hd⟩
   ·obtain ⟨k1,k2,k3⟩:=leh_odd hX hY hxl hyl bx bv hd uv1 hu.2 v1p c1 c2
    refine ⟨v0*Y - u0*X,u1*X - v1*Y,by omega,?_,?_,Or.inr ⟨by rw [he];rfl,by omega,by omega⟩⟩
    ·rcases low with h6 | h6 | h6
     ·omega
     ·omega
     ·rw [he] at h6;cases h6.1
    ·rw [Nat.gcd_comm X Y]
     exact gcd_keep (a:=v0) (b:=u0) (c:=u1) (d:=v1) (by omega) (by omega) (by grind)
   ·obtain ⟨k1,k2,k3⟩:=leh_even hX hY hxl hyl bx bv hd uv1 v1p c1 c2
    refine ⟨u0*X - v0*Y,v1*Y - u1*X,by omega,?_,?_,Or.inl ⟨by rw [he];rfl,by omega,by omega⟩⟩
    ·rcases low with h6 | h6 | h6
     ·omega
     ·rw [he] at h6;cases h6.1
     ·omega
    ·exact gcd_keep (a:=u0) (b:=v0) (c:=v1) (d:=u1) (by omega) (by omega) (by grind)
theorem less_step {A C Y n k:Nat} (hC:C=0+n*Y) (hle:C≤A) :
  (dg Y k*n+(mcy 0 Y n k+bw A C k)) / 4294967296+(if dg A k < (dg Y k*n+(mcy 0 Y n k+bw A C k)) % 4294967296 then 1 else 0)=mcy 0 Y n (k+1)+bw A C (k+1) ∧
  dg (A - C) k=(dg A k+4294967296 - (dg Y k*n+(mcy 0 Y n k+bw A C k)) % 4294967296) % 4294967296:=by
 have h1:=mul_dg 0 Y n k
 have h2:=mul_cy 0 Y n k
 rw [dg_zero,Nat.add_zero] at h1 h2
 rw [←hC] at h1
 have h3:=sub_step k hle
 have h4:=bw_le A C k
 have h5:=bw_le A C (k+1)
 have h6:=xZ2 (A - C) k
 have h7:=xZ2 A k
 have h8:=xZ2 C k
 generalize dg Y k*n=p at *
 generalize mcy 0 Y n k=m0 at *
 generalize mcy 0 Y n (k+1)=m1 at *
 generalize bw A C k=b0 at *
 generalize bw A C (k+1)=b1 at *
 generalize dg (A - C) k=z at *
 generalize dg A k=a at *
 generalize dg C k=c at *
 constructor
 ·split <;> omega
 ·omega
open Go.RowKit
set_option linter.unusedVariables false
theorem xJ1 {p:Prop} (h:p):Hid p:=h
theorem limb_any (ao:Option Addr) (n cap X i:Nat) (w:World) (hm:n≤70368744177664) (hi:i≤70368744177664) (hS:Seg w ao X n) :
  Calls Tryz.prog 157 #[.slice ao n cap,.int .i64 i] w fun e w'=>e=.returned (.int .u64 (dg X i:Nat))∧w=w':=by
 by_cases h:i < n
 ·obtain ⟨b,off,rfl,hb,hc⟩:=hS.2 (by omega)
  have hx:=xZ2 X i
  go_enter Tryz.func157,Tryz.ntmps157
  go_wp2
  go_ret
  exact ⟨rfl,rfl⟩
 ·have h0:dg X i=0:=dg_big (Nat.lt_of_lt_of_le hS.1 (xX4 (by omega)))
  have H0:Hid (dg X i=0):=h0
  clear h0
  go_enter Tryz.func157,Tryz.ntmps157
  go_wp2
  go_ret
  rw [H0.out]
  exact ⟨rfl,rfl⟩
theorem limb_q (ao:Option Addr) (n cap X:Nat) (z:Int) (w:World) (hm:n≤70368744177664) (h0:0≤z) (hi:z≤70368744177664) (hS:Seg w ao X n) :
  Calls Tryz.prog 157 #[.slice ao n cap,.int .i64 z] w fun e w'=>e=.returned (.int .u64 (dg X z.toNat:Nat))∧w'=w:=by
 obtain ⟨i,rfl⟩:=Int.eq_ofNat_of_zero_le h0
 refine (limb_any ao n cap X i w hm (by omega) hS).mono ?_
 rintro e w' ⟨rfl,rfl⟩
 exact ⟨rfl,rfl⟩
theorem word_cut {X d up:Nat} (hup:up≤31) :
  X / 2 ^ (32*(d+1) - up) % 18446744073709551616=(dg X (d+2)*4294967296+dg X (d+1))*2 ^ up % 18446744073709551616+dg X d / 2 ^ (32 - up) ∧
  dg X d / 2 ^ (32 - up) < 2 ^ up∧(dg X (d+2)*4294967296+dg X (d+1))*2 ^ up % 18446744073709551616 % 2 ^ up=0:=by
 have hc:=xZ2 X d
 have e32:(4294967296:Nat)=2 ^ (32 - up)*2 ^ up:=by rw [←Nat.pow_add,show 32 - up+up=32 by omega]
 have e64:(18446744073709551616:Nat)=2 ^ up*2 ^ (64 - up):=by rw [←Nat.pow_add,show up+(64 - up)=64 by omega]
 have hr:dg X d / 2 ^ (32 - up) < 2 ^ up:=(Nat.div_lt_iff_lt_mul (Nat.two_pow_pos _)).2 (by rw [Nat.mul_comm,←e32];exact hc)
 have hT:∀ T,T*2 ^ up % 18446744073709551616=2 ^ up*(T % 2 ^ (64 - up)):=fun T=>by
  rw [e64,Nat.mul_comm T,Nat.mul_mod_mul_left]
 refine ⟨?_,hr,by rw [hT,Nat.mul_mod_right]⟩
 have eh:32*(d+1) - up=32*d+(32 - up):=by omega
 have e1:=xJ5 X d
 have e2:=xJ5 X (d+1)
 have e3:=xJ5 X (d+2)
 rw [e3] at e2
 rw [e2,BB_eq] at e1
 rw [eh,Nat.pow_add,←BB_two',←Nat.div_div_eq_div_mul,BB_eq,e1]
 generalize X / 4294967296 ^ (d+2+1)=M
 rw [show dg X (d+1+1)=dg X (d+2) from rfl]
 generalize dg X (d+2)=a
 generalize dg X (d+1)=b
 generalize dg X d=c at *
 have e4:((M*4294967296+a)*4294967296+b)*4294967296+c=2 ^ (32 - up)*(((M*4294967296+a)*4294967296+b)*2 ^ up)+c:=by
  congr 1
  generalize (M*4294967296+a)*4294967296+b=N
  rw [e32];ac_rfl
 rw [e4,Nat.mul_add_div (Nat.two_pow_pos _)]
 generalize c / 2 ^ (32 - up)=r at *
 have e5:((M*4294967296+a)*4294967296+b)*2 ^ up+r=((a*4294967296+b)*2 ^ up+r)+18446744073709551616*(M*2 ^ up):=by
  generalize 2 ^ up=p;grind
 rw [e5,Nat.add_mul_mod_self_left,hT,e64,Nat.mod_mul]
 have hp:=Nat.two_pow_pos up
 have e6:((a*4294967296+b)*2 ^ up+r) / 2 ^ up=a*4294967296+b:=by
  rw [Nat.mul_comm,Nat.mul_add_div hp,Nat.div_eq_of_lt hr,Nat.add_zero]
 have e7:((a*4294967296+b)*2 ^ up+r) % 2 ^ up=r:=by
  rw [Nat.mul_comm,Nat.mul_add_mod,Nat.mod_eq_of_lt hr]
 rw [e6,e7,Nat.add_comm]
theorem word_val {a b c up:Nat} (ha:a < 4294967296) (hb:b < 4294967296) (hc:c < 4294967296) (hup:up≤31) (hr:c / 2 ^ (32 - up) < 2 ^ up) (hm:(a*4294967296+b)*2 ^ up % 18446744073709551616 % 2 ^ up=0) :
  bits BinOp.or IntKind.u64 (IntKind.u64.wrap (bits BinOp.or IntKind.u64 (IntKind.u64.wrap ((a:Int)*4294967296)) (b:Int)*2 ^ up)) ((c:Int) / 2 ^ (32 - up))=(((a*4294967296+b)*2 ^ up % 18446744073709551616+c / 2 ^ (32 - up):Nat):Int):=by
 have e:IntKind.u64.wrap ((a:Int)*4294967296)=((a*4294967296:Nat):Int):=by rw [IntKind.wrap_u64];omega
 rw [e,u64_or_nat _ _ (by omega) (by omega),nat_join 32 _ _ (by omega) (by omega),IntKind.wrap_u64]
 have e2:((a*4294967296+b:Nat):Int)*2 ^ up % 18446744073709551616=(((a*4294967296+b)*2 ^ up % 18446744073709551616:Nat):Int):=by
  rw [←cast_two,←Int.natCast_mul];generalize (a*4294967296+b)*2 ^ up=t;omega
 have e3:(c:Int) / 2 ^ (32 - up)=((c / 2 ^ (32 - up):Nat):Int):=by rw [←cast_two,←Int.natCast_ediv]
 have h2:=two_le hup
 have hlt:(a*4294967296+b)*2 ^ up % 18446744073709551616 < 18446744073709551616:=Nat.mod_lt _ (by omega)
 rw [e2,e3,u64_or_nat _ _ hlt (by omega),nat_join up _ _ hm hr]
set_option maxHeartbeats 1000000 in
theorem wordAt_any (ao:Option Addr) (n cap X e up:Nat) (w:World) (hm:n≤70368744177664) (he:e≤70368744177664) (he3:3≤e) (hup:up≤31) (hS:Seg w ao X n) :
  Calls Tryz.prog 156 #[.slice ao n cap,.int .i64 e,.int .i64 up] w fun r w'=>r=.returned (.int .u64 (X / 2 ^ (32*(e - 2) - up) % 18446744073709551616:Nat))∧Dr w w':=by
 obtain ⟨d,rfl⟩:∃ d,e=d+3:=⟨e - 3,by omega⟩
 have t1:((d:Int)+3 - 1).toNat=d+2:=by omega
 have t2:((d:Int)+3 - 2).toNat=d+1:=by omega
 have t3:((d:Int)+3 - 3).toNat=d:=by omega
 go_enter Tryz.func156,Tryz.ntmps156
 go_wp2
 go_quiet ((go_at_call 157;exact Calls.quiet_of_same (limb_q _ _ _ X _ _ (by omega) (by omega) (by omega) hS.drewN)))
 go_wp2
 go_ret
 obtain ⟨f1,f2,f3⟩:=word_cut (X:=X) (d:=d) hup
 refine ⟨xJ7 ?_,(Dr.refl _).drewN _⟩
 rw [show d+3 - 2=d+1 by omega,f1]
 exact word_val (xZ2 _ _) (xZ2 _ _) (xZ2 _ _) hup f2 f3
set_option maxHeartbeats 1000000 in
theorem highWords_any (ao ao2:Option Addr) (n cap X m cap2 Y:Nat) (w:World) (hm:n≤70368744177664) (hm2:m≤70368744177664) (hS:Seg w ao X n) (hS2:Seg w ao2 Y m) (hln:ln X=n) (h3:3≤n) (hle:Y≤X) :
  ∃ h xh yh,xh=X / 2 ^ h∧yh=Y / 2 ^ h∧xh < 18446744073709551616 ∧
  Calls Tryz.prog 147 #[.slice ao n cap,.slice ao2 m cap2] w fun r w'=>r=.returned (.tuple #[.int .u64 xh,.int .u64 yh])∧Dr w w':=by
 obtain ⟨b,off,rfl,hb,hc⟩:=hS.2 (by omega)
 have htop:dg X (n - 1)≠0:=by
  have h0:X≠0:=fun e=>by rw [e,xX7] at hln;omega
  have:=dg_top h0;rwa [hln] at this
 obtain ⟨hb32,hb1',hDlt,-⟩:=lead (by omega) hS.1 htop
 obtain ⟨up,hup⟩:∃ u,u=32 - bl (dg X (n - 1)):=⟨_,rfl⟩
 rw [←hup] at hDlt
 have hup31:up≤31:=by omega
 have LZ:=LeadingZeros32_any (dg X (n - 1)) w (xZ2 _ _) hb32
 rw [←hup] at LZ
 have hX64:X < 18446744073709551616*2 ^ (32*(n - 2) - up):=by
  have e1:BB ^ n=2 ^ up*(18446744073709551616*2 ^ (32*(n - 2) - up)):=by
   rw [BB_two',show (18446744073709551616:Nat)=2 ^ 64 from rfl,←Nat.pow_add,←Nat.pow_add];congr 1;omega
  rw [e1] at hDlt
  exact Nat.lt_of_mul_lt_mul_left hDlt
 have hx:X / 2 ^ (32*(n - 2) - up) < 18446744073709551616:=(Nat.div_lt_iff_lt_mul (Nat.two_pow_pos _)).2 hX64
 have hy:Y / 2 ^ (32*(n - 2) - up) < 18446744073709551616:=(Nat.div_lt_iff_lt_mul (Nat.two_pow_pos _)).2 (Nat.lt_of_le_of_lt hle hX64)
 refine ⟨32*(n - 2) - up,_,_,rfl,rfl,hx,?_⟩
 have WX:Hid (∀ W,Dr w W→Calls Tryz.prog 156 #[.slice (some ⟨b,off,none⟩) n cap,.int .i64 n,.int .i64 up] W fun r w'=>r=.returned (.int .u64 (X / 2 ^ (32*(n - 2) - up):Nat))∧Dr W w'):=fun W hW=>by
  have:=wordAt_any (some ⟨b,off,none⟩) n cap X n up W hm hm h3 hup31 (hS.dr hW)
  rwa [Nat.mod_eq_of_lt hx] at this
 have WY:Hid (∀ W,Dr w W→Calls Tryz.prog 156 #[.slice ao2 m cap2,.int .i64 n,.int .i64 up] W fun r w'=>r=.returned (.int .u64 (Y / 2 ^ (32*(n - 2) - up):Nat))∧Dr W w'):=fun W hW=>by
  have:=wordAt_any ao2 m cap2 Y n up W hm2 hm h3 hup31 (hS2.dr hW)
  rwa [Nat.mod_eq_of_lt hy] at this
 generalize X / 2 ^ (32*(n - 2) - up)=xh at *
 generalize Y / 2 ^ (32*(n - 2) - up)=yh at *
 have HLZ:=xJ1 LZ
 clear hup hb32 hb1' hDlt htop LZ hX64 hle hln
 go_enter Tryz.func147,Tryz.ntmps147
 go_wp2_with fail
 refine HLZ.out.mono ?_
 rintro e w' ⟨rfl,rfl⟩
 go_wp2_with fail
 refine (WX.out _ (Dr.refl _)).mono ?_
 rintro e w1 ⟨rfl,hd1⟩
 go_wp2_with fail
 refine (WY.out _ hd1).mono ?_
 rintro e w2 ⟨rfl,hd2⟩
 go_wp2
 go_ret2
 exact ⟨rfl,hd1.trans hd2⟩
theorem gcdOfWords_any (x y:Nat) (w:World) (hx:x < 18446744073709551616) (hy:y < 18446744073709551616) :
  Calls Tryz.prog 137 #[.int .u64 x,.int .u64 y] w fun r w'=>r=.returned (.int .u64 (Nat.gcd x y:Nat))∧Dr w w':=by
 go_enter Tryz.func137,Tryz.ntmps137
 go_wp2
 go_loopw [0,1] (fun vx vy wr=>∃ a b:Nat,vx=.int .u64 a∧vy=.int .u64 b∧a < 18446744073709551616∧b < 18446744073709551616∧Nat.gcd a b=Nat.gcd x y∧Dr w wr) (fun _ vy _=>(intOf vy).toNat)
 case atStart=>exact ⟨x,y,rfl,rfl,hx,hy,rfl,Dr.refl _⟩
 case round =>
  obtain ⟨a,b,rfl,rfl,ha,hb,hg,hd⟩:=hrel
  have HG:=xJ1 hg
  clear hg
  by_cases hb0:b=0
  ·subst hb0
   go_wp2
   go_ret
   refine ⟨xJ7 ?_,hd⟩
   have:=HG.out;rw [Nat.gcd_zero_right] at this;rw [this]
  ·have hbn:((b:Int) != 0)=true:=by rw [bne_iff_ne];omega
   have hbz:((b:Int) == 0)=false:=by rw [beq_eq_false_iff_ne];omega
   go_wp2
   go_quiet (fail)
   go_wp2
   go_roundw
   case rel=>exact ⟨b,a % b,rfl,by simp,hb,Nat.lt_of_le_of_lt (Nat.mod_le _ _) ha,by rw [Nat.gcd_comm,←Nat.gcd_rec,Nat.gcd_comm];exact HG.out,hd.drewN _⟩
   case measure =>
    have e:(a:Int) % (b:Int)=((a % b:Nat):Int):=by simp
    simp only [intOf,e,Int.toNat_natCast]
    exact Nat.mod_lt _ (by omega)
theorem euclidStep_any (ao ao2:Option Addr) (n cap X m Y:Nat) (w:World) (hc:n≤cap) (hm:n≤70368744177663) (hm2:m≤70368744177663) (hS:Seg w ao X n) (hS2:Seg w ao2 Y m) (hY:Y≠0) :
  Calls Tryz.prog 136 #[.slice ao n cap,.slice ao2 m m] w fun r w'=>∃ ar,r=.returned (.tuple #[.slice ao2 m m,.slice ar (ln (X % Y)) (ln (X % Y))])∧New w w' ar (X % Y) (ln (X % Y)):=by
 go_enter Tryz.func136,Tryz.ntmps136
 go_wp2_with fail
 refine (Div_any _ _ _ _ X _ _ Y _ hc hm hS (Nat.le_refl _) hm2 hS2 hY).mono ?_
 rintro e w1 ⟨aq,ar,rfl,hq,hr⟩
 go_wp2
 go_ret2
 exact ⟨_,rfl,hr⟩
theorem tl_arith {mx dx m lc dy q dA dZ mx' lc':Nat} (h1:(dx*m+mx) % 4294967296=dA) (h2:(dx*m+mx) / 4294967296=mx')
  (h3:(dy*q+lc) / 4294967296+(if dA < (dy*q+lc) % 4294967296 then 1 else 0)=lc') (h4:dZ=(dA+4294967296 - (dy*q+lc) % 4294967296) % 4294967296) :
  ((mx:Int)+(dx:Int)*(m:Int)) / 4294967296=(mx':Int) ∧
  (((mx:Int)+(dx:Int)*(m:Int)) % 4294967296 < ((lc:Int)+(dy:Int)*(q:Int)) % 4294967296→((lc:Int)+(dy:Int)*(q:Int)) / 4294967296+1=(lc':Int)∧((mx:Int)+(dx:Int)*(m:Int) - ((lc:Int)+(dy:Int)*(q:Int))) % 4294967296=(dZ:Int)) ∧
  (((lc:Int)+(dy:Int)*(q:Int)) % 4294967296≤((mx:Int)+(dx:Int)*(m:Int)) % 4294967296→((lc:Int)+(dy:Int)*(q:Int)) / 4294967296=(lc':Int)∧((mx:Int)+(dx:Int)*(m:Int)) % 4294967296 - ((lc:Int)+(dy:Int)*(q:Int)) % 4294967296=(dZ:Int)):=by
 have e1:(dx:Int)*(m:Int)=((dx*m:Nat):Int):=(Int.natCast_mul _ _).symm
 have e2:(dy:Int)*(q:Int)=((dy*q:Nat):Int):=(Int.natCast_mul _ _).symm
 rw [e1,e2]
 generalize dx*m=p at *
 generalize dy*q=r at *
 refine ⟨by omega,fun h=>?_,fun h=>?_⟩
 ·rw [if_pos (by omega)] at h3;omega
 ·rw [if_neg (by omega)] at h3;omega
set_option maxHeartbeats 1000000 in
theorem timesLess_any (ao ao2:Option Addr) (n cap X m k cap2 Y q L:Nat) (w:World) (hn:n≤70368744177664) (hk:k≤70368744177664) (hmm:m < 4294967296) (hqq:q < 4294967296) (hL:L=max n k) (hS:Seg w ao X n) (hS2:Seg w ao2 Y k)
  (hle:q*Y≤m*X) (hlt:m*X - q*Y < BB ^ L) :
  Calls Tryz.prog 148 #[.slice ao n cap,.int .u64 m,.slice ao2 k cap2,.int .u64 q] w fun r w'=>∃ a',r=.returned (.slice a' (ln (m*X - q*Y)) (ln (m*X - q*Y)))∧New w w' a' (m*X - q*Y) (ln (m*X - q*Y)):=by
 have hmx:max (n:Int) (k:Int)=(L:Int):=by omega
 have hnL:n≤L:=by omega
 have hkL:k≤L:=by omega
 have hL2:L≤70368744177664:=by omega
 clear hL
 go_enter Tryz.func148,Tryz.ntmps148
 go_wp2_with (at_make;refine mk_law _ rfl _ _ rfl _ L rfl rfl (by go_num) (by omega) ?_;intro w1 hnew hrow)
 obtain ⟨A,hA⟩:∃ A,A=m*X:=⟨_,rfl⟩
 obtain ⟨C,hC⟩:∃ C,C=q*Y:=⟨_,rfl⟩
 rw [←hA,←hC] at hle hlt
 have HA:=xJ1 hA
 have HC:=xJ1 hC
 have HZ:=xJ1 hlt
 have HLE:=xJ1 hle
 clear hA hC hlt hle hmx
 go_loopw [10,11,22] (fun vm vl vi wr=>∃ j:Nat,j≤L∧vi=.int .i64 j∧vm=.int .u64 (mcy 0 X m j:Nat)∧vl=.int .u64 (mcy 0 Y q j+bw A C j:Nat)∧Wr w.heap.size 0 (0+L) w1 wr∧Seg wr (some ⟨w.heap.size,0,none⟩) (mix (A - C) 0 j) L) (fun _ _ vi _=>L - (intOf vi).toNat)
 case atStart=>exact ⟨0,Nat.zero_le _,rfl,by rw [mcy_zero];rfl,by rw [mcy_zero,bw_zero];rfl,Wr.refl _ _ _ _,by rw [mix_zero];exact hnew.seg⟩
 case round =>
  obtain ⟨j,hj,rfl,rfl,rfl,hwr,hseg⟩:=hrel
  have hB:Below w.heap.size w wr:=hnew.below.trans (hwr.below (Nat.le_refl _) hnew.below.size)
  by_cases hlt:j < L
  ·have hcx:=hseg.rest j (Nat.le_refl _) hlt
   rw [Nat.zero_add] at hcx
   have hfz:=fun o=>(hwr.row hrow).frozen o
   have hc1:=mcy_le (a:=m) 0 X j
   have hc2:=mcy_le (a:=q) 0 Y j
   have hb1:=bw_le A C j
   have hx1:=xZ2 X j
   have hx2:=xZ2 Y j
   obtain ⟨hp0,hp1⟩:=prod_int hx1 hmm
   obtain ⟨hq0,hq1⟩:=prod_int hx2 hqq
   obtain ⟨lc,hlc⟩:∃ l,l=mcy 0 Y q j+bw A C j:=⟨_,rfl⟩
   rw [←hlc]
   have hlb:lc≤4294967296:=by omega
   have HLC:=xJ1 hlc
   clear hlc
   go_wp2_with fail
   refine (limb_any _ _ _ X j _ (by omega) (by omega) (hS.below hB (Nat.le_refl _))).mono ?_
   rintro e w' ⟨rfl,rfl⟩
   go_wp2_with fail
   refine (limb_any _ _ _ Y j _ (by omega) (by omega) (hS2.below hB (Nat.le_refl _))).mono ?_
   rintro e w' ⟨rfl,rfl⟩
   have g1:=mul_dg 0 X m j
   have g2:=mul_cy 0 X m j
   rw [dg_zero,Nat.add_zero] at g1 g2
   rw [Nat.zero_add,←HA.out] at g1
   have g3:=less_step (k:=j) (n:=q) (Y:=Y) (by rw [Nat.zero_add];exact HC.out) HLE.out
   rw [←HLC.out] at g3
   have AR:=xJ1 (tl_arith g1 g2 g3.1 g3.2)
   clear g1 g2 g3
   go_wp2
   all_goals go_roundw
   case rel =>
    obtain ⟨r1,r2,r3⟩:=AR.out
    rename_i hcmp2
    obtain ⟨r4,r5⟩:=r2 hcmp2
    refine ⟨j+1,by omega,by go_num,by rw [r1],by rw [r4],?_,?_⟩
    ·have:=hwr.setCell j (by omega) (by omega) (.int .u32 ((((mcy 0 X m j:Nat):Int)+((dg X j:Nat):Int)*(m:Int) - ((lc:Int)+((dg Y j:Nat):Int)*(q:Int))) % 4294967296))
     exact this
    ·have:=hseg.set (k:=j) hlt (BBp _) (v:=(((mcy 0 X m j:Nat):Int)+((dg X j:Nat):Int)*(m:Int) - ((lc:Int)+((dg Y j:Nat):Int)*(q:Int))) % 4294967296) r5
     rw [Nat.zero_add] at this
     exact this
   case measure=>simp [intOf];omega
   case rel =>
    obtain ⟨r1,r2,r3⟩:=AR.out
    rename_i hcmp2
    obtain ⟨r4,r5⟩:=r3 hcmp2
    refine ⟨j+1,by omega,by go_num,by rw [r1],by rw [r4],?_,?_⟩
    ·have:=hwr.setCell j (by omega) (by omega) (.int .u32 ((((mcy 0 X m j:Nat):Int)+((dg X j:Nat):Int)*(m:Int)) % 4294967296 - ((lc:Int)+((dg Y j:Nat):Int)*(q:Int)) % 4294967296))
     exact this
    ·have:=hseg.set (k:=j) hlt (BBp _) (v:=(((mcy 0 X m j:Nat):Int)+((dg X j:Nat):Int)*(m:Int)) % 4294967296 - ((lc:Int)+((dg Y j:Nat):Int)*(q:Int)) % 4294967296) r5
     rw [Nat.zero_add] at this
     exact this
   case measure=>simp [intOf];omega
  ·have hjL:j=L:=by omega
   subst hjL
   rw [mix_nought HZ.out] at hseg
   have hN:New w wr (some ⟨w.heap.size,0,none⟩) (A - C) j:=⟨hseg,hB,fun _=>⟨_,_,rfl,Nat.le_refl _,hwr.row hrow⟩⟩
   go_wp2_with fail
   refine (xX5 _ _ _ (A - C) _ (Nat.le_refl _) (by omega) hseg).mono ?_
   rintro e w4 ⟨a4,rfl,rfl,ht4⟩
   go_wp2
   go_ret
   rw [←HA.out,←HC.out]
   exact ⟨_,rfl,hN.trm ht4⟩
open Go
section
variable {P:Program} {ops:Array Oper} {Q:Exit→Act→World→Prop} {md:Region.Mode} {S:Bool→World→Prop} {z:Bool→Nat→Bool}
def AnyZ (P:Program) (md:Region.Mode) (ops:Array Oper) (Q:Exit→Act→World→Prop) (S:Bool→World→Prop) (z:Bool→Nat→Bool):Nat→Array Bool→Act→World→Prop
 | 0,L,a,w=>Region.ready md ops L=[]∧Q .normal a w
 | n+1,L,a,w=>(Region.ready md ops L=[]→Q .normal a w) ∧
   ∀ i∈Region.ready md ops L,wpOp P ops Q i (fun a' w'=>(∀ k,z k i=false→S k w→S k w')∧AnyZ P md ops Q S z n (L.setIfInBounds i true) a' w') a w
theorem AnyZ.any:∀ {n:Nat} {L:Array Bool} {a:Act} {w:World},AnyZ P md ops Q S z n L a w→wpAny P md ops Q n L a w
 | 0,_,_,_,h=>h
 | n+1,_,_,_,h=>⟨h.1,fun i hi=>wpOp_mono (fun _ _ h'=>AnyZ.any h'.2) (h.2 i hi)⟩
theorem AnyZ.begin {id:Nat} {a:Act} {w:World} (n:Nat) (hn:ops.size=n) (hm:P.follows .mixedOrders=true)
  (h:AnyZ P .any ops Q S z n (Array.replicate n false) a w.drew):(Code.region id ops true).wp P Q a w:=by
 subst hn
 exact wp_region_any hm h.any
def waitsAll (md:Region.Mode) (ops:Array Oper) (zk:Nat→Bool) (i:Nat):Bool :=
 (List.range ops.size).all fun j=>!zk j || j == i || ((ops[j]?).map (·.after.any fun e=>Region.binds md e && e.on == i)).getD true
theorem waitsAll_ne {zk:Nat→Bool} {i j:Nat} {L:Array Bool} (hw:waitsAll md ops zk i=true) (hj:j∈Region.ready md ops L) (hji:j≠i) (hi:i∈Region.ready md ops L):zk j=false:=by
 obtain ⟨_,oj,hoj,hall⟩:=mem_ready.1 hj
 have hjn:j < ops.size:=by
  rcases Nat.lt_or_ge j ops.size with h | h
  ·exact h
  ·rw [Array.getElem?_eq_none h] at hoj;cases hoj
 have h1:=List.all_eq_true.1 hw j (List.mem_range.2 hjn)
 rw [hoj] at h1
 cases hz:zk j with
 | false=>rfl
 | true =>
  exfalso
  simp only [hz,Bool.not_true,Bool.false_or,Option.map_some,Option.getD_some,Bool.or_eq_true,beq_iff_eq] at h1
  rcases h1 with h1 | h1
  ·exact hji h1
  ·rw [Array.any_eq_true'] at h1
   obtain ⟨e,he,hb⟩:=h1
   rw [Bool.and_eq_true,beq_iff_eq] at hb
   have h2:=hall e he hb.1
   rw [hb.2] at h2
   have h3:=(mem_ready.1 hi).1
   rcases Nat.lt_or_ge i L.size with h' | h'
   ·simp [h'] at h2 h3;rw [h3] at h2;cases h2
   ·simp [Array.getElem?_eq_none h'] at h2
theorem AnyZ.first {i:Nat} {oi:Oper} {v:Value} (k:Bool) (hi:ops[i]?=some oi) (hsel:∀ (j:Nat) (o:Oper) cs b,ops[j]?=some o→o.op≠.select cs b)
  (hQ:∀ c a w,Q (.panic c) (a.put oi.dst v) w→Q (.panic c) a w) (hwt:waitsAll md ops (z k) i=true) :
  ∀ (n:Nat) (L:Array Bool) (a:Act) (w:World),
   (∀ j oj,ops[j]?=some oj→j≠i→L.getD j true=false→(∀ e∈oj.after,Region.binds md e=true→e.on≠i)→oi.apart ops oj=true) →
   i∈Region.ready md ops L→YieldsIf P ops (S k) oi v a→S k w →
   AnyZ P md ops Q S z n (L.setIfInBounds i true) (a.put oi.dst v) w→AnyZ P md ops Q S z (n+1) L a w:=by
 intro n
 induction n with
 | zero =>
  intro L a w _ hr hy hS H
  refine ⟨fun h=>(by rw [h] at hr;cases hr),fun j hj=>?_⟩
  by_cases hji:j=i
  ·subst hji;exact hy.wpOp hi hS ⟨fun _ _ h=>h,H⟩
  ·have:=ready_mono hj hji
   rw [H.1] at this
   cases this
 | succ n ih =>
  intro L a w hfree hr hy hS H
  refine ⟨fun h=>(by rw [h] at hr;cases hr),fun j hj=>?_⟩
  by_cases hji:j=i
  ·subst hji;exact hy.wpOp hi hS ⟨fun _ _ h=>h,H⟩
  ·obtain ⟨hjL,oj,hoj,hall⟩:=mem_ready.1 hj
   have hiL:=(mem_ready.1 hr).1
   have hno:∀ e∈oj.after,Region.binds md e=true→e.on≠i:=by
    intro e he hb hei
    have h2:=hall e he hb
    rw [hei] at h2
    rcases Nat.lt_or_ge i L.size with h' | h'
    ·simp [h'] at h2 hiL;rw [hiL] at h2;cases h2
    ·simp [Array.getElem?_eq_none h'] at h2
   have step:=wpOp_putIf hoj (hfree j oj hoj hji hjL hno) (fun cs b=>hsel i oi cs b hi) (fun cs b=>hsel j oj cs b hoj) hQ hy (H.2 j (ready_mono hj hji))
   have hzj:=waitsAll_ne hwt hj hji hr
   refine wpOp_mono (fun a' w' h=>⟨h.2.1,ih (L.setIfInBounds j true) a' w' ?_ (ready_mono hr (Ne.symm hji)) h.1 (h.2.1 k hzj hS) ?_⟩) step
   ·intro m om hm hmi hmL hmn
    refine hfree m om hm hmi ?_ hmn
    by_cases hjm:j=m
    ·exact hjm ▸ hjL
    ·rwa [getD_set_ne true hjm] at hmL
   ·rw [Array.setIfInBounds_comm _ _ hji]
    exact h.2.2
theorem AnyZ.take {i:Nat} {d:Option Tmp} {op:Op} {ty:TypeId} {pos:String} {af:Array Edge} {v:Value} {n:Nat} {L:Array Bool} {a:Act} {w:World} (k:Bool) (hi:ops[i]?=some ⟨d,op,ty,pos,af,none⟩)
  (hs:Region.noSelect ops=true) (hf:Region.free md ops L i=true) (hr:(Region.ready md ops L).contains i=true) (hwt:waitsAll md ops (z k) i=true)
  (hQ:∀ c a w,Q (.panic c) (a.put d v) w→Q (.panic c) a w) (hy:∀ w,S k w→(execOp a.eval ⟨d,op,ty,pos,af,none⟩).run P w=.ok (.value v) w) (hS:S k w)
  (h:AnyZ P md ops Q S z n (L.setIfInBounds i true) (a.put d v) w):AnyZ P md ops Q S z (n+1) L a w :=
 AnyZ.first k hi (Region.noSelect_spec hs) hQ hwt n L a w (Region.free_spec hi hf) (by simpa using hr) (Or.inl ⟨rfl,hy⟩) hS h
theorem AnyZ.next {i:Nat} {d:Option Tmp} {op:Op} {ty:TypeId} {pos:String} {af:Array Edge} {n:Nat} {L:Array Bool} {a:Act} {w:World} (hi:ops[i]?=some ⟨d,op,ty,pos,af,none⟩) (hr:Region.ready md ops L=[i])
  (h:∀ K':Act→World→Prop,Shut (∀ a' w',(∀ k,z k i=false→S k w→S k w')→AnyZ P md ops Q S z n (L.setIfInBounds i true) a' w'→K' a' w')→Oper.wp P ⟨d,op,ty,pos,af,none⟩ a w K' Q) :
  AnyZ P md ops Q S z (n+1) L a w:=by
 refine ⟨fun h0=>(by rw [hr] at h0;cases h0),fun j hj=>?_⟩
 rw [hr,List.mem_singleton] at hj
 subst hj
 refine wpOp_step hi (fun K' hK=>?_)
 have hw:Region.wanted ⟨d,op,ty,pos,af,none⟩ (yielded ops a.tmps)=true:=rfl
 rw [if_pos hw]
 exact h K' (fun a' w' h1 h2=>hK a' w' ⟨h1,h2⟩)
theorem AnyZ.done {n:Nat} {L:Array Bool} {a:Act} {w:World} (hr:Region.ready md ops L=[]) (h:Q .normal a w):AnyZ P md ops Q S z n L a w:=by
 cases n with
 | zero=>exact ⟨hr,h⟩
 | succ n=>exact ⟨fun _=>h,by rw [hr];simp⟩
end
structure Stp (w0 w:World) (b um vm u0 v0 u1 v1:Nat) (ev:Bool):Prop where
 c0:w.cell? ⟨b,0,none⟩=some (.int .u64 um)
 c1:w.cell? ⟨b,1,none⟩=some (.int .u64 vm)
 c2:w.cell? ⟨b,2,none⟩=some (.int .u64 u0)
 c3:w.cell? ⟨b,3,none⟩=some (.int .u64 v0)
 c4:w.cell? ⟨b,4,none⟩=some (.bool ev)
 d0:w.cell? ⟨b+1,0,none⟩=some (.int .u64 u1)
 d1:w.cell? ⟨b+1,1,none⟩=some (.int .u64 v1)
 rb:Row w b
 rd:Row w (b+1)
 be:Below w0.heap.size w0 w
structure Res (w:World) (b:Nat):Prop where
 r0:w.cell? ⟨b,0,none⟩=some (.int .u64 0)
 r1:w.cell? ⟨b,1,none⟩=some (.int .u64 0)
 r2:w.cell? ⟨b,2,none⟩=some (.int .u64 0)
 r3:w.cell? ⟨b,3,none⟩=some (.int .u64 0)
 r4:w.cell? ⟨b,4,none⟩=some (.bool false)
 rr:Row w b
theorem Res.drewN {w:World} {b n:Nat} (h:Res w b):Res (w.drewN n) b:=⟨h.r0,h.r1,h.r2,h.r3,h.r4,h.rr⟩
theorem Res.setCell {w:World} {b b' o:Nat} (h:Res w b) (u:Value) (hne:b < b'):Res (w.setCell ⟨b',o,none⟩ u) b:=by
 have k:∀ o',(w.setCell ⟨b',o,none⟩ u).cell? ⟨b,o',none⟩=w.cell? ⟨b,o',none⟩:=fun o'=>World.cell?_setCell_far _ _ _ _ (by show b'≠b;omega)
 exact ⟨by rw [k];exact h.r0,by rw [k];exact h.r1,by rw [k];exact h.r2,by rw [k];exact h.r3,by rw [k];exact h.r4,h.rr.setCell _ _⟩
theorem Stp.step {w0 w:World} {b n um vm u0 v0 u1 v1 U V:Nat} {A B:Int} {ev:Bool} (h:Stp w0 w b um vm u0 v0 u1 v1 ev) (hb:w0.heap.size≤b) (hA:A=U) (hB:B=V) :
  Stp w0 ((((((((w.drewN n).setCell ⟨b,0,none⟩ (.int .u64 u0)).setCell ⟨b,1,none⟩ (.int .u64 v0)).setCell ⟨b,2,none⟩ (.int .u64 u1)).setCell ⟨b,3,none⟩ (.int .u64 v1)).setCell ⟨b+1,0,none⟩ (.int .u64 A)).setCell ⟨b+1,1,none⟩ (.int .u64 B)).setCell ⟨b,4,none⟩ (.bool !ev)) b u0 v0 u1 v1 U V (!ev):=by
 obtain ⟨c0,c1,c2,c3,c4,d0,d1,rb,rd,be⟩:=h
 subst hA hB
 have be':=below_drewN (q:=n) be
 refine ⟨by go_simp,by go_simp,by go_simp,by go_simp,by go_simp,by go_simp,by go_simp,?_,?_,?_⟩
 ·exact ((((((rb.drewN.setCell _ _).setCell _ _).setCell _ _).setCell _ _).setCell _ _).setCell _ _).setCell _ _
 ·exact ((((((rd.drewN.setCell _ _).setCell _ _).setCell _ _).setCell _ _).setCell _ _).setCell _ _).setCell _ _
 ·exact ((((((be'.setCell (by exact hb) _).setCell (by exact hb) _).setCell (by exact hb) _).setCell (by exact hb) _).setCell (by exact Nat.le_succ_of_le hb) _).setCell (by exact Nat.le_succ_of_le hb) _).setCell (by exact hb) _
set_option maxHeartbeats 4000000 in
theorem gcdSteps_any (X Y H xh yh xl yl:Nat) (w:World) (hX:X=xh*H+xl) (hY:Y=yh*H+yl) (hxl:xl < H) (hyl:yl < H) (hxh:xh < 18446744073709551616) (hle:yh≤xh) :
  Calls Tryz.prog 146 #[.int .u64 xh,.int .u64 yh] w fun r w'=>∃ (um vm u0 v0:Nat) (ev:Bool),r=.returned (.agg #[.int .u64 um,.int .u64 vm,.int .u64 u0,.int .u64 v0,.bool ev])∧Told X Y um vm u0 v0 ev∧Below w.heap.size w w':=by
 have hyh:yh < 18446744073709551616:=by omega
 have HS:Hid (∀ x y u0 v0 u1 v1 ev,Leh X Y xh yh x y u0 v0 u1 v1 ev→v1≤y→v0+v1+y≤x→Leh X Y xh yh y (x % y) u1 v1 (u0+x / y*u1) (v0+x / y*v1) (!ev)∧Told X Y u0 v0 u1 v1 (!ev)):=fun _ _ _ _ _ _ _ L c1 c2=>leh_step hX hY hxl hyl hxh hle L c1 c2
 have HB:Hid (∀ x y u0 v0 u1 v1 ev,Leh X Y xh yh x y u0 v0 u1 v1 ev→v1≤y→_):=fun _ _ _ _ _ _ _ L c1=>leh_bounds L hxh hle c1
 have HI:=xJ1 (leh_start (X:=X) (Y:=Y) hle)
 clear hX hY hxl hyl hle
 go_enter Tryz.func146,Tryz.ntmps146
 go_wp2
 go_loopw [0,1] (fun vx vy wr=>∃ (x y um vm u0 v0 u1 v1:Nat) (ev:Bool),vx=.int .u64 x∧vy=.int .u64 y∧x < 18446744073709551616∧y < 18446744073709551616∧v1 < 18446744073709551616∧Leh X Y xh yh x y u0 v0 u1 v1 ev∧Told X Y um vm u0 v0 ev∧Stp w wr (w.heap.size+1) um vm u0 v0 u1 v1 ev∧Res wr w.heap.size) (fun _ vy _=>(intOf vy).toNat)
 case atStart =>
  refine ⟨xh,yh,0,0,1,0,0,1,false,rfl,rfl,hxh,hyh,by omega,HI.out,Or.inl rfl,?_,?_⟩
  ·refine ⟨by go_simp,by go_simp,by go_simp,by go_simp,by go_simp,by go_simp,by go_simp,?_,?_,?_⟩
   ·have:=xQ9 (w.alloc (.cells #[.int .u64 0,.int .u64 0,.int .u64 0,.int .u64 0,.bool false] 171)) #[.int .u64 0,.int .u64 0,.int .u64 1,.int .u64 0,.bool false] 171
    rw [size_alloc] at this
    exact this.alloc _
   ·have:=xQ9 ((w.alloc (.cells #[.int .u64 0,.int .u64 0,.int .u64 0,.int .u64 0,.bool false] 171)).alloc (.cells #[.int .u64 0,.int .u64 0,.int .u64 1,.int .u64 0,.bool false] 171)) #[.int .u64 0,.int .u64 1] 169
    rw [size_alloc,size_alloc] at this
    exact this
   ·exact (((Below.refl _ _).alloc (Nat.le_refl _) _).alloc (by rw [size_alloc];omega) _).alloc (by rw [size_alloc,size_alloc];omega) _
  ·exact ⟨by go_simp,by go_simp,by go_simp,by go_simp,by go_simp,((xQ9 _ _ _).alloc _).alloc _⟩
 case round =>
  obtain ⟨x,y,um,vm,u0,v0,u1,v1,ev,rfl,rfl,hx,hy,hv1,hL,hT,hS,hR⟩:=hrel
  have HL:=xJ1 hL
  have HT:=xJ1 hT
  have hyx:=hL.le
  clear hL hT
  have HP:=xJ1 hS
  have HRs:=xJ1 hR
  obtain ⟨c0,c1,c2,c3,c4,d0,d1,rb,rd,be⟩:=hS
  obtain ⟨r0,r1,r2,r3,r4,rr0⟩:=hR
  have hfz3:=fun o=>rr0.frozen o
  have hfz:=fun o=>rb.frozen o
  have hfz2:=fun o=>rd.frozen o
  by_cases k1:v1≤y
  ·obtain ⟨b1,b2,b3,b4,b5,b6⟩:=HB.out _ _ _ _ _ _ _ HL.out k1
   by_cases k2:v0+v1+y≤x
   ·have hyp:1≤y:=by have:=HL.out.v1p;omega
    have hyz:((y:Int) == 0)=false:=by rw [beq_eq_false_iff_ne];omega
    have hyz2:¬ y=0:=by omega
    obtain ⟨qq,hqq⟩:∃ q,q=x / y:=⟨_,rfl⟩
    obtain ⟨rr,hrr⟩:∃ r,r=x % y:=⟨_,rfl⟩
    have hqw:IntKind.u64.wrap ((x:Int) / (y:Int))=(qq:Int):=by
     have e:(x:Int) / (y:Int)=((x / y:Nat):Int):=by simp
     have:x / y≤x:=Nat.div_le_self _ _
     rw [e,hqq,IntKind.wrap_u64];omega
    have hrw:(x:Int) % (y:Int)=(rr:Int):=by rw [hrr];simp
    rw [←hqq] at b5 b6
    have p1:0≤(qq:Int)*(u1:Int)∧(u0:Int)+(qq:Int)*(u1:Int)≤18446744073709551615:=by rw [←Int.natCast_mul];omega
    have p2:0≤(qq:Int)*(v1:Int)∧(v0:Int)+(qq:Int)*(v1:Int)≤18446744073709551615:=by rw [←Int.natCast_mul];omega
    obtain ⟨p11,p12⟩:=p1
    obtain ⟨p21,p22⟩:=p2
    have HQ:=xJ1 hqq
    have HR:=xJ1 hrr
    have K1:=xJ1 k1
    have K2:=xJ1 k2
    clear hqq hrr b5 b6
    go_wp2
    go_quiet (fail)
    go_wp2
    have hD:(wr.drewN nq).drew.cell? ⟨w.heap.size+1+1,0,none⟩=some (.int .u64 u1)∧(wr.drewN nq).drew.cell? ⟨w.heap.size+1+1,1,none⟩=some (.int .u64 v1):=⟨d0,d1⟩
    have hC:(wr.drewN nq).drew.cell? ⟨w.heap.size+1,2,none⟩=some (.int .u64 u0)∧(wr.drewN nq).drew.cell? ⟨w.heap.size+1,3,none⟩=some (.int .u64 v0):=⟨c2,c3⟩
    refine AnyZ.begin (S:=fun k w'=>if k=true then w'.cell? ⟨w.heap.size+1+1,0,none⟩=some (.int .u64 u1)∧w'.cell? ⟨w.heap.size+1+1,1,none⟩=some (.int .u64 v1) else w'.cell? ⟨w.heap.size+1,2,none⟩=some (.int .u64 u0)∧w'.cell? ⟨w.heap.size+1,3,none⟩=some (.int .u64 v0)) (z:=fun k i=>if k=true then i == 24 else Nat.ble 20 i) 25 rfl (by kernel_rfl) ?_
    refine AnyZ.take (i:=0) (v:=?_) true rfl (by kernel_rfl) (by kernel_rfl) (by kernel_rfl) (by kernel_rfl) (fun _ _ _ h=>h) ?_ hD ?_
    rotate_left
    ·intro w9 hSw
     simp only [if_true] at hSw
     obtain ⟨hS1,hS2⟩:=hSw
     go_simp
     try with_reducible rfl
    simp only [pA]
    refine AnyZ.take (i:=1) (v:=?_) false rfl (by kernel_rfl) (by kernel_rfl) (by kernel_rfl) (by kernel_rfl) (fun _ _ _ h=>h) ?_ hC ?_
    rotate_left
    ·intro w9 hSw
     simp only [Bool.false_eq_true,if_false] at hSw
     obtain ⟨hS1,hS2⟩:=hSw
     go_simp
     try with_reducible rfl
    simp only [pA]
    refine AnyZ.take (i:=2) (v:=?_) true rfl (by kernel_rfl) (by kernel_rfl) (by kernel_rfl) (by kernel_rfl) (fun _ _ _ h=>h) ?_ hD ?_
    rotate_left
    ·intro w9 hSw
     simp only [if_true] at hSw
     obtain ⟨hS1,hS2⟩:=hSw
     go_simp
     try with_reducible rfl
    simp only [pA]
    refine AnyZ.take (i:=3) (v:=?_) true rfl (by kernel_rfl) (by kernel_rfl) (by kernel_rfl) (by kernel_rfl) (fun _ _ _ h=>h) ?_ hD ?_
    rotate_left
    ·intro w9 hSw
     simp only [if_true] at hSw
     obtain ⟨hS1,hS2⟩:=hSw
     go_simp
     try with_reducible rfl
    simp only [pA]
    refine AnyZ.take (i:=4) (v:=?_) true rfl (by kernel_rfl) (by kernel_rfl) (by kernel_rfl) (by kernel_rfl) (fun _ _ _ h=>h) ?_ hD ?_
    rotate_left
    ·intro w9 hSw
     simp only [if_true] at hSw
     obtain ⟨hS1,hS2⟩:=hSw
     go_simp
     try with_reducible rfl
    simp only [pA]
    refine AnyZ.take (i:=5) (v:=?_) false rfl (by kernel_rfl) (by kernel_rfl) (by kernel_rfl) (by kernel_rfl) (fun _ _ _ h=>h) ?_ hC ?_
    rotate_left
    ·intro w9 hSw
     simp only [Bool.false_eq_true,if_false] at hSw
     obtain ⟨hS1,hS2⟩:=hSw
     go_simp
     try with_reducible rfl
    simp only [pA]
    refine AnyZ.take (i:=6) (v:=?_) true rfl (by kernel_rfl) (by kernel_rfl) (by kernel_rfl) (by kernel_rfl) (fun _ _ _ h=>h) ?_ hD ?_
    rotate_left
    ·intro w9 hSw
     simp only [if_true] at hSw
     obtain ⟨hS1,hS2⟩:=hSw
     go_simp
     try with_reducible rfl
    simp only [pA]
    refine AnyZ.take (i:=7) (v:=?_) true rfl (by kernel_rfl) (by kernel_rfl) (by kernel_rfl) (by kernel_rfl) (fun _ _ _ h=>h) ?_ hD ?_
    rotate_left
    ·intro w9 hSw
     simp only [if_true] at hSw
     obtain ⟨hS1,hS2⟩:=hSw
     go_simp
     try with_reducible rfl
    simp only [pA]
    refine AnyZ.take (i:=8) (v:=?_) true rfl (by kernel_rfl) (by kernel_rfl) (by kernel_rfl) (by kernel_rfl) (fun _ _ _ h=>h) ?_ hD ?_
    rotate_left
    ·intro w9 hSw
     simp only [if_true] at hSw
     obtain ⟨hS1,hS2⟩:=hSw
     go_simp
     try with_reducible rfl
    simp only [pA]
    refine AnyZ.take (i:=9) (v:=?_) true rfl (by kernel_rfl) (by kernel_rfl) (by kernel_rfl) (by kernel_rfl) (fun _ _ _ h=>h) ?_ hD ?_
    rotate_left
    ·intro w9 hSw
     simp only [if_true] at hSw
     obtain ⟨hS1,hS2⟩:=hSw
     go_simp
     try with_reducible rfl
    simp only [pA]
    refine AnyZ.take (i:=10) (v:=?_) true rfl (by kernel_rfl) (by kernel_rfl) (by kernel_rfl) (by kernel_rfl) (fun _ _ _ h=>h) ?_ hD ?_
    rotate_left
    ·intro w9 hSw
     simp only [if_true] at hSw
     obtain ⟨hS1,hS2⟩:=hSw
     go_simp
     try with_reducible rfl
    simp only [pA]
    refine AnyZ.take (i:=11) (v:=?_) true rfl (by kernel_rfl) (by kernel_rfl) (by kernel_rfl) (by kernel_rfl) (fun _ _ _ h=>h) ?_ hD ?_
    rotate_left
    ·intro w9 hSw
     simp only [if_true] at hSw
     obtain ⟨hS1,hS2⟩:=hSw
     go_simp
     try with_reducible rfl
    simp only [pA]
    refine AnyZ.take (i:=12) (v:=?_) true rfl (by kernel_rfl) (by kernel_rfl) (by kernel_rfl) (by kernel_rfl) (fun _ _ _ h=>h) ?_ hD ?_
    rotate_left
    ·intro w9 hSw
     simp only [if_true] at hSw
     obtain ⟨hS1,hS2⟩:=hSw
     go_simp
     try with_reducible rfl
    simp only [pA]
    refine AnyZ.take (i:=13) (v:=?_) false rfl (by kernel_rfl) (by kernel_rfl) (by kernel_rfl) (by kernel_rfl) (fun _ _ _ h=>h) ?_ hC ?_
    rotate_left
    ·intro w9 hSw
     simp only [Bool.false_eq_true,if_false] at hSw
     obtain ⟨hS1,hS2⟩:=hSw
     go_simp
     try with_reducible rfl
    simp only [pA]
    refine AnyZ.take (i:=14) (v:=?_) true rfl (by kernel_rfl) (by kernel_rfl) (by kernel_rfl) (by kernel_rfl) (fun _ _ _ h=>h) ?_ hD ?_
    rotate_left
    ·intro w9 hSw
     simp only [if_true] at hSw
     obtain ⟨hS1,hS2⟩:=hSw
     go_simp
     try with_reducible rfl
    simp only [pA]
    refine AnyZ.take (i:=15) (v:=?_) true rfl (by kernel_rfl) (by kernel_rfl) (by kernel_rfl) (by kernel_rfl) (fun _ _ _ h=>h) ?_ hD ?_
    rotate_left
    ·intro w9 hSw
     simp only [if_true] at hSw
     obtain ⟨hS1,hS2⟩:=hSw
     go_simp
     try with_reducible rfl
    simp only [pA]
    refine AnyZ.take (i:=16) (v:=?_) true rfl (by kernel_rfl) (by kernel_rfl) (by kernel_rfl) (by kernel_rfl) (fun _ _ _ h=>h) ?_ hD ?_
    rotate_left
    ·intro w9 hSw
     simp only [if_true] at hSw
     obtain ⟨hS1,hS2⟩:=hSw
     go_simp
     try with_reducible rfl
    simp only [pA]
    refine AnyZ.take (i:=17) (v:=?_) true rfl (by kernel_rfl) (by kernel_rfl) (by kernel_rfl) (by kernel_rfl) (fun _ _ _ h=>h) ?_ hD ?_
    rotate_left
    ·intro w9 hSw
     simp only [if_true] at hSw
     obtain ⟨hS1,hS2⟩:=hSw
     go_simp
     try with_reducible rfl
    simp only [pA]
    refine AnyZ.take (i:=18) (v:=?_) true rfl (by kernel_rfl) (by kernel_rfl) (by kernel_rfl) (by kernel_rfl) (fun _ _ _ h=>h) ?_ hD ?_
    rotate_left
    ·intro w9 hSw
     simp only [if_true] at hSw
     obtain ⟨hS1,hS2⟩:=hSw
     go_simp
     try with_reducible rfl
    simp only [pA]
    refine AnyZ.take (i:=19) (v:=?_) true rfl (by kernel_rfl) (by kernel_rfl) (by kernel_rfl) (by kernel_rfl) (fun _ _ _ h=>h) ?_ hD ?_
    rotate_left
    ·intro w9 hSw
     simp only [if_true] at hSw
     obtain ⟨hS1,hS2⟩:=hSw
     go_simp
     try with_reducible rfl
    simp only [pA]
    refine AnyZ.take (i:=20) (v:=?_) true rfl (by kernel_rfl) (by kernel_rfl) (by kernel_rfl) (by kernel_rfl) (fun _ _ _ h=>h) ?_ hD ?_
    rotate_left
    ·intro w9 hSw
     simp only [if_true] at hSw
     obtain ⟨hS1,hS2⟩:=hSw
     go_simp
     try with_reducible rfl
    simp only [pA]
    refine AnyZ.next (i:=21) rfl (by kernel_rfl) (fun K hK=>?_)
    go_simp
    refine hK.out _ _ ?_ ?_
    ·intro k hz hS
     cases k
     ·exact absurd hz (by decide)
     ·simp only [if_true] at hS ⊢
      obtain ⟨hS1,hS2⟩:=hS
      go_keep
    try simp only [pA]
    refine AnyZ.next (i:=22) rfl (by kernel_rfl) (fun K hK=>?_)
    go_simp
    refine hK.out _ _ ?_ ?_
    ·intro k hz hS
     cases k
     ·exact absurd hz (by decide)
     ·simp only [if_true] at hS ⊢
      obtain ⟨hS1,hS2⟩:=hS
      go_keep
    try simp only [pA]
    refine AnyZ.next (i:=23) rfl (by kernel_rfl) (fun K hK=>?_)
    go_simp
    refine hK.out _ _ ?_ ?_
    ·intro k hz hS
     cases k
     ·exact absurd hz (by decide)
     ·simp only [if_true] at hS ⊢
      obtain ⟨hS1,hS2⟩:=hS
      go_keep
    try simp only [pA]
    refine AnyZ.next (i:=24) rfl (by kernel_rfl) (fun K hK=>?_)
    go_simp
    refine hK.out _ _ ?_ ?_
    ·intro k hz
     cases k <;> exact absurd hz (by decide)
    refine AnyZ.done (by kernel_rfl) ?_
    have hU:IntKind.u64.wrap ((u0:Int)+IntKind.u64.wrap ((qq:Int)*(u1:Int)))=((u0+qq*u1:Nat):Int):=by
     rw [IntKind.wrap_u64,IntKind.wrap_u64,Int.natCast_add,Int.natCast_mul];omega
    have hV:IntKind.u64.wrap ((v0:Int)+IntKind.u64.wrap ((qq:Int)*(v1:Int)))=((v0+qq*v1:Nat):Int):=by
     rw [IntKind.wrap_u64,IntKind.wrap_u64,Int.natCast_add,Int.natCast_mul];omega
    rw [hU,hV]
    clear hU hV hD hC
    go_wp2
    refine ⟨⟨y,rr,u0,v0,u1,v1,u0+qq*u1,v0+qq*v1,!ev,rfl,rfl,hy,?_,?_,?_,?_,?_,?_⟩,?_⟩
    ·rw [HR.out];exact Nat.lt_trans (Nat.mod_lt _ hyp) hy
    ·have e:((v0+qq*v1:Nat):Int)=(v0:Int)+(qq:Int)*(v1:Int):=by simp
     omega
    ·have:=(HS.out _ _ _ _ _ _ _ HL.out K1.out K2.out).1
     rw [←HQ.out,←HR.out] at this
     exact this
    ·exact (HS.out _ _ _ _ _ _ _ HL.out K1.out K2.out).2
    ·exact HP.out.step (Nat.le_succ _) (by simp) (by simp)
    ·exact ((((((HRs.out.drewN.setCell _ (by omega)).setCell _ (by omega)).setCell _ (by omega)).setCell _ (by omega)).setCell _ (by omega)).setCell _ (by omega)).setCell _ (by omega)
    ·show rr < y
     rw [HR.out];exact Nat.mod_lt _ hyp
   ·have K2:=xJ1 k2
    go_wp2
    try simp only [Exit.inBlock,Exit.then]
    refine bodyPost_ret (v:=.agg #[.int .u64 um,.int .u64 vm,.int .u64 u0,.int .u64 v0,.bool ev]) (by rw [xQ5 rfl];go_simp) rfl ?_
    exact ⟨um,vm,u0,v0,ev,rfl,HT.out,((((be.setCell (by exact Nat.le_refl _) _).setCell (by exact Nat.le_refl _) _).setCell (by exact Nat.le_refl _) _).setCell (by exact Nat.le_refl _) _).setCell (by exact Nat.le_refl _) _⟩
  ·go_wp2
   try simp only [Exit.inBlock,Exit.then]
   refine bodyPost_ret (v:=.agg #[.int .u64 um,.int .u64 vm,.int .u64 u0,.int .u64 v0,.bool ev]) (by rw [xQ5 rfl];go_simp) rfl ?_
   exact ⟨um,vm,u0,v0,ev,rfl,HT.out,((((be.setCell (by exact Nat.le_refl _) _).setCell (by exact Nat.le_refl _) _).setCell (by exact Nat.le_refl _) _).setCell (by exact Nat.le_refl _) _).setCell (by exact Nat.le_refl _) _⟩
theorem timesLess_is (ao ao2:Option Addr) (n cap X m k cap2 Y q L P:Nat) (w:World) (hn:n≤70368744177664) (hk:k≤70368744177664) (hmm:m < 4294967296) (hqq:q < 4294967296) (hL:L=max n k) (hS:Seg w ao X n) (hS2:Seg w ao2 Y k)
  (h:P+q*Y=m*X) (hlt:P < BB ^ L) :
  Calls Tryz.prog 148 #[.slice ao n cap,.int .u64 m,.slice ao2 k cap2,.int .u64 q] w fun r w'=>∃ a',r=.returned (.slice a' (ln P) (ln P))∧New w w' a' P (ln P):=by
 have e:m*X - q*Y=P:=by omega
 have:=timesLess_any ao ao2 n cap X m k cap2 Y q L w hn hk hmm hqq hL hS hS2 (by omega) (by rw [e];exact hlt)
 rwa [e] at this
theorem xX9 {w w':World} (h:Below w.heap.size w w') {a:Addr} {v:Value} (hc:w.cell? a=some v):w'.cell? a=some v:=by
 rw [h.cell (World.block_lt_of_cell? w a hc)]
 exact hc
set_option maxHeartbeats 2000000 in
theorem gcdStep_any (ao ao2:Option Addr) (n m X Y:Nat) (w:World) (hn:n=ln X) (hm:m=ln Y) (hb:n≤70368744177663) (hS:Seg w ao X n) (hS2:Seg w ao2 Y m) (h3:3≤m) (hle:Y≤X) :
  Calls Tryz.prog 135 #[.slice ao n n,.slice ao2 m m] w fun r w'=>∃ a1 a2 P Q,r=.returned (.tuple #[.slice a1 (ln P) (ln P),.slice a2 (ln Q) (ln Q)])∧Q < P∧P≤Y∧Nat.gcd P Q=Nat.gcd X Y∧(New w w' a1 P (ln P)∨(a1=ao2∧P=Y))∧New w w' a2 Q (ln Q):=by
 have hmn:m≤n:=by rw [hm];exact xQ4 (Nat.lt_of_le_of_lt hle hS.1)
 obtain ⟨h,xh,yh,hxh,hyh,hxb,HW⟩:=highWords_any ao ao2 n n X m m Y w (by omega) (by omega) hS hS2 hn.symm (by omega) hle
 have hX:=Nat.div_add_mod X (2 ^ h)
 have hY:=Nat.div_add_mod Y (2 ^ h)
 have hxl:=Nat.mod_lt X (Nat.two_pow_pos h)
 have hyl:=Nat.mod_lt Y (Nat.two_pow_pos h)
 rw [←hxh,Nat.mul_comm] at hX
 rw [←hyh,Nat.mul_comm] at hY
 have hhle:yh≤xh:=by rw [hxh,hyh];exact Nat.div_le_div_right hle
 have hYn:Y < BB ^ n:=Nat.lt_of_le_of_lt hle hS.1
 have HG:Hid (∀ w,_):=fun w=>gcdSteps_any X Y (2 ^ h) xh yh (X % 2 ^ h) (Y % 2 ^ h) w hX.symm hY.symm hxl hyl hxb hhle
 have HW':=xJ1 HW
 have HN:=xJ1 hn
 have HM:=xJ1 hm
 clear hX hY hxl hyl hhle HW hn hm hxh hyh
 go_enter Tryz.func135,Tryz.ntmps135
 go_wp2_with fail
 refine HW'.out.mono ?_
 rintro e w1 ⟨rfl,hd⟩
 go_wp2_with fail
 refine (HG.out _).mono ?_
 rintro e w2 ⟨um,vm,u0,v0,ev,rfl,hT,hB2⟩
 have HT:=xJ1 hT
 clear hT
 by_cases h0:vm=0
 ·subst h0
  go_wp2_with fail
  have hB3:Below w.heap.size w (w2.alloc (.cells #[.int .u64 um,.int .u64 0,.int .u64 u0,.int .u64 v0,.bool ev] 171)):=(((hd.below _).trans (hB2.mono (hd.below w.heap.size).size))).alloc (Nat.le_trans (hd.below w.heap.size).size hB2.size) _
  have hYp:Y≠0:=by intro hy;rw [HM.out,hy,xX7] at h3;omega
  refine (euclidStep_any ao ao2 n n X m Y _ (Nat.le_refl _) hb (by omega) (hS.below hB3 (Nat.le_refl _)) (hS2.below hB3 (Nat.le_refl _)) hYp).mono ?_
  rintro e w4 ⟨ar,rfl,hN⟩
  go_wp2
  go_ret2
  refine ⟨ao2,ar,Y,X % Y,by rw [←HM.out];rfl,Nat.mod_lt _ (by omega),Nat.le_refl _,?_,Or.inr ⟨rfl,rfl⟩,hN.back hB3⟩
  rw [Nat.gcd_comm X Y,Nat.gcd_rec Y X,Nat.gcd_comm]
 ·rcases HT.out with h9 | ⟨t1,t2,t3,t4,P,Q,hQP,hPY,hgcd,heq⟩
  ·exact absurd h9 h0
  have HE:=xJ1 heq
  have hQP':=xJ1 hQP
  have hPY':=xJ1 hPY
  have hgcd':=xJ1 hgcd
  have hPb:P < BB ^ n:=Nat.lt_of_le_of_lt hPY hYn
  have hQb:Q < BB ^ n:=Nat.lt_trans hQP hPb
  clear heq hQP hPY hgcd
  cases ev
  ·have HE1:Hid (P+um*X=vm*Y):=by
    rcases HE.out with ⟨h,_⟩ | ⟨_,h,_⟩
    ·cases h
    ·exact h
   have HE2:Hid (Q+v0*Y=u0*X):=by
    rcases HE.out with ⟨h,_⟩ | ⟨_,_,h⟩
    ·cases h
    ·exact h
   go_wp2_with fail
   have hB3:Below w.heap.size w (w2.alloc (.cells #[.int .u64 um,.int .u64 vm,.int .u64 u0,.int .u64 v0,.bool false] 171)):=(((hd.below _).trans (hB2.mono (hd.below w.heap.size).size))).alloc (Nat.le_trans (hd.below w.heap.size).size hB2.size) _
   have q0:(w2.alloc (.cells #[.int .u64 um,.int .u64 vm,.int .u64 u0,.int .u64 v0,.bool false] 171)).cell? ⟨w2.heap.size,0,none⟩=some (.int .u64 um):=by go_simp
   have q1:(w2.alloc (.cells #[.int .u64 um,.int .u64 vm,.int .u64 u0,.int .u64 v0,.bool false] 171)).cell? ⟨w2.heap.size,1,none⟩=some (.int .u64 vm):=by go_simp
   have q2:(w2.alloc (.cells #[.int .u64 um,.int .u64 vm,.int .u64 u0,.int .u64 v0,.bool false] 171)).cell? ⟨w2.heap.size,2,none⟩=some (.int .u64 u0):=by go_simp
   have q3:(w2.alloc (.cells #[.int .u64 um,.int .u64 vm,.int .u64 u0,.int .u64 v0,.bool false] 171)).cell? ⟨w2.heap.size,3,none⟩=some (.int .u64 v0):=by go_simp
   generalize w2.alloc (.cells #[.int .u64 um,.int .u64 vm,.int .u64 u0,.int .u64 v0,.bool false] 171)=W at hB3 q0 q1 q2 q3 ⊢
   go_region_held3 (fun w'=>w'.cell? ⟨w2.heap.size,0,none⟩=some (.int .u64 um)∧w'.cell? ⟨w2.heap.size,1,none⟩=some (.int .u64 vm)∧w'.cell? ⟨w2.heap.size,2,none⟩=some (.int .u64 u0)∧w'.cell? ⟨w2.heap.size,3,none⟩=some (.int .u64 v0)∧Below W.heap.size W w')
    (first | exact ⟨q0,q1,q2,q3,(Below.refl _ _).drew⟩ | exact ⟨xX9 hn2.below g0,xX9 hn2.below g1,xX9 hn2.below g2,xX9 hn2.below g3,gB.trans (hn2.below.mono gB.size)⟩ | exact ⟨xX9 hn1.below g0,xX9 hn1.below g1,xX9 hn1.below g2,xX9 hn1.below g3,gB.trans (hn1.below.mono gB.size)⟩)
    (first
     | (go_at_call_of 148 (Value.int .u64 (vm:Int));obtain ⟨g0,g1,g2,g3,gB⟩:=(by assumption:_∧_∧_∧_∧Below W.heap.size W _);refine (timesLess_is ao2 ao m m Y vm n n X um n P _ (by omega) (by omega) t2 t1 (by omega) (hS2.below (hB3.trans (gB.mono hB3.size)) (Nat.le_refl _)) (hS.below (hB3.trans (gB.mono hB3.size)) (Nat.le_refl _)) HE1.out hPb).mono ?_;rintro e w5 ⟨a1,rfl,hn1⟩)
     | (go_at_call_of 148 (Value.int .u64 (u0:Int));obtain ⟨g0,g1,g2,g3,gB⟩:=(by assumption:_∧_∧_∧_∧Below W.heap.size W _);refine (timesLess_is ao ao2 n n X u0 m m Y v0 n Q _ (by omega) (by omega) t3 t4 (by omega) (hS.below (hB3.trans (gB.mono hB3.size)) (Nat.le_refl _)) (hS2.below (hB3.trans (gB.mono hB3.size)) (Nat.le_refl _)) HE2.out hQb).mono ?_;rintro e w6 ⟨a2,rfl,hn2⟩))
   have hB5:=hB3.drew.trans (hn1.below.mono hB3.drew.size)
   go_wp2
   go_ret2
   exact ⟨a1,a2,P,Q,rfl,hQP'.out,hPY'.out,hgcd'.out,Or.inl ((hn1.later hn2.below).back hB3.drew),hn2.back hB5⟩
  ·have HE1:Hid (P+vm*Y=um*X):=by
    rcases HE.out with ⟨_,h,_⟩ | ⟨h,_⟩
    ·exact h
    ·cases h
   have HE2:Hid (Q+u0*X=v0*Y):=by
    rcases HE.out with ⟨_,_,h⟩ | ⟨h,_⟩
    ·exact h
    ·cases h
   go_wp2_with fail
   have hB3:Below w.heap.size w (w2.alloc (.cells #[.int .u64 um,.int .u64 vm,.int .u64 u0,.int .u64 v0,.bool true] 171)):=(((hd.below _).trans (hB2.mono (hd.below w.heap.size).size))).alloc (Nat.le_trans (hd.below w.heap.size).size hB2.size) _
   have q0:(w2.alloc (.cells #[.int .u64 um,.int .u64 vm,.int .u64 u0,.int .u64 v0,.bool true] 171)).cell? ⟨w2.heap.size,0,none⟩=some (.int .u64 um):=by go_simp
   have q1:(w2.alloc (.cells #[.int .u64 um,.int .u64 vm,.int .u64 u0,.int .u64 v0,.bool true] 171)).cell? ⟨w2.heap.size,1,none⟩=some (.int .u64 vm):=by go_simp
   have q2:(w2.alloc (.cells #[.int .u64 um,.int .u64 vm,.int .u64 u0,.int .u64 v0,.bool true] 171)).cell? ⟨w2.heap.size,2,none⟩=some (.int .u64 u0):=by go_simp
   have q3:(w2.alloc (.cells #[.int .u64 um,.int .u64 vm,.int .u64 u0,.int .u64 v0,.bool true] 171)).cell? ⟨w2.heap.size,3,none⟩=some (.int .u64 v0):=by go_simp
   generalize w2.alloc (.cells #[.int .u64 um,.int .u64 vm,.int .u64 u0,.int .u64 v0,.bool true] 171)=W at hB3 q0 q1 q2 q3 ⊢
   go_region_held3 (fun w'=>w'.cell? ⟨w2.heap.size,0,none⟩=some (.int .u64 um)∧w'.cell? ⟨w2.heap.size,1,none⟩=some (.int .u64 vm)∧w'.cell? ⟨w2.heap.size,2,none⟩=some (.int .u64 u0)∧w'.cell? ⟨w2.heap.size,3,none⟩=some (.int .u64 v0)∧Below W.heap.size W w')
    (first | exact ⟨q0,q1,q2,q3,(Below.refl _ _).drew⟩ | exact ⟨xX9 hn2.below g0,xX9 hn2.below g1,xX9 hn2.below g2,xX9 hn2.below g3,gB.trans (hn2.below.mono gB.size)⟩ | exact ⟨xX9 hn1.below g0,xX9 hn1.below g1,xX9 hn1.below g2,xX9 hn1.below g3,gB.trans (hn1.below.mono gB.size)⟩)
    (first
     | (go_at_call_of 148 (Value.int .u64 (um:Int));obtain ⟨g0,g1,g2,g3,gB⟩:=(by assumption:_∧_∧_∧_∧Below W.heap.size W _);refine (timesLess_is ao ao2 n n X um m m Y vm n P _ (by omega) (by omega) t1 t2 (by omega) (hS.below (hB3.trans (gB.mono hB3.size)) (Nat.le_refl _)) (hS2.below (hB3.trans (gB.mono hB3.size)) (Nat.le_refl _)) HE1.out hPb).mono ?_;rintro e w5 ⟨a1,rfl,hn1⟩)
     | (go_at_call_of 148 (Value.int .u64 (v0:Int));obtain ⟨g0,g1,g2,g3,gB⟩:=(by assumption:_∧_∧_∧_∧Below W.heap.size W _);refine (timesLess_is ao2 ao m m Y v0 n n X u0 n Q _ (by omega) (by omega) t4 t3 (by omega) (hS2.below (hB3.trans (gB.mono hB3.size)) (Nat.le_refl _)) (hS.below (hB3.trans (gB.mono hB3.size)) (Nat.le_refl _)) HE2.out hQb).mono ?_;rintro e w6 ⟨a2,rfl,hn2⟩))
   have hB5:=hB3.drew.trans (hn1.below.mono hB3.drew.size)
   go_wp2
   go_ret2
   exact ⟨a1,a2,P,Q,rfl,hQP'.out,hPY'.out,hgcd'.out,Or.inl ((hn1.later hn2.below).back hB3.drew),hn2.back hB5⟩
theorem small2 {Z:Nat} (h:ln Z≤2):Z < 18446744073709551616:=by
 have h1:=xJ3 Z
 have h2:BB ^ ln Z≤BB ^ 2:=xX4 h
 have h3:BB ^ 2=18446744073709551616:=by rw [BB_eq]
 omega
set_option maxHeartbeats 2000000 in
theorem Gcd_any (ao ao2:Option Addr) (n cap X m cap2 Y:Nat) (w:World) (hc:n≤cap) (hm:n≤70368744177663) (hS:Seg w ao X n) (hc2:m≤cap2) (hm2:m≤70368744177663) (hS2:Seg w ao2 Y m) :
  Calls Tryz.prog 119 #[.slice ao n cap,.slice ao2 m cap2] w fun e w'=>∃ ag,e=.returned (.slice ag (ln (Nat.gcd X Y)) (ln (Nat.gcd X Y)))∧New w w' ag (Nat.gcd X Y) (ln (Nat.gcd X Y)):=by
 have hl:=xQ4 hS.1
 have hl2:=xQ4 hS2.1
 by_cases hlt:X < Y
 ·have HL:Hid (X < Y):=hlt
  have hcm:cmpI X Y < 0:=by rw [cmpI_lt hlt];omega
  clear hlt
  go_enter Tryz.func119,Tryz.ntmps119
  go_wp2_with fail
  refine (Norm_any _ _ _ X _ hc (by omega) hS).mono ?_
  rintro e w1 ⟨a1,rfl,hn1⟩
  go_wp2_with fail
  refine (Norm_any _ _ _ Y _ hc2 (by omega) (hS2.below hn1.below (Nat.le_refl _))).mono ?_
  rintro e w2 ⟨a2,rfl,hn2⟩
  go_wp2_with fail
  refine (Cmp_any _ _ _ _ X _ _ Y _ (Nat.le_refl _) (by omega) (hn1.later hn2.below).seg (Nat.le_refl _) (by omega) hn2.seg).mono ?_
  rintro e w3 ⟨rfl,hdr⟩
  go_wp2_with fail
  have hs1:=(hn1.later hn2.below).later (hdr.below _)
  have hs2:=(hn2.back hn1.below).later (hdr.below _)
  go_loopg [5,6] X (fun k vx vy wr=>∃ ax ay A B,vx=.slice ax (ln A) (ln A)∧vy=.slice ay (ln B) (ln B)∧B=k∧B≤A∧ln A≤70368744177663∧Nat.gcd A B=Nat.gcd X Y∧New w wr ax A (ln A)∧New w wr ay B (ln B))
  case atStart=>exact ⟨a2,a1,Y,X,rfl,rfl,rfl,(Nat.le_of_lt HL.out),by omega,(Nat.gcd_comm _ _),hs2,hs1⟩
  case round =>
   clear hn1 hn2 hs1 hs2 hdr
   obtain ⟨ax,ay,A,B,rfl,rfl,hk,hBA,hA9,hg,hNx,hNy⟩:=hrel
   have hlm:ln B≤ln A:=xZ4 hBA
   have HBA:=xJ1 hBA
   have HGC:=xJ1 hg
   have HK:=xJ1 hk
   clear hBA hg hk
   by_cases hb3:2 < ln B
   ·go_wp2_with fail
    refine (gcdStep_any ax ay _ _ A B _ rfl rfl hA9 hNx.seg hNy.seg hb3 HBA.out).mono ?_
    rintro e w5 ⟨b1,b2,P,Q,rfl,hQP,hPB,hgc,hn5,hn6⟩
    have HQ:=xJ1 hQP
    have HP:=xJ1 hPB
    have HG5:=xJ1 hgc
    clear hQP hPB hgc
    go_wp2_with fail
    go_roundg Q
    case measure=>have:=HQ.out;have:=HP.out;have:=HK.out;omega
    case rel =>
     have hlP:ln P≤ln B:=xZ4 HP.out
     refine ⟨b1,b2,P,Q,rfl,rfl,rfl,Nat.le_of_lt HQ.out,by omega,by rw [HG5.out,HGC.out],?_,hn6.back hNy.below⟩
     rcases hn5 with h5 | ⟨rfl,rfl⟩
     ·exact h5.back hNy.below
     ·exact hNy.later hn6.below
   ·by_cases hb0:ln B=0
    ·have hB0:B=0:=ln_eq_zero.1 hb0
     have HB0:=xJ1 hB0
     clear hB0
     go_wp2_with fail
     go_ret
     have e:Nat.gcd X Y=A:=by rw [←HGC.out,HB0.out,Nat.gcd_zero_right]
     rw [e]
     exact ⟨ax,rfl,hNx⟩
    ·by_cases ha:2 < ln A
     ·have hBp:B≠0:=fun h=>hb0 (ln_eq_zero.2 h)
      go_wp2_with fail
      refine (euclidStep_any ax ay _ _ A _ B _ (Nat.le_refl _) hA9 (by omega) hNx.seg hNy.seg hBp).mono ?_
      rintro e w5 ⟨ar,rfl,hn5⟩
      have hlr:ln (A % B)≤ln B:=xZ4 (Nat.le_of_lt (Nat.mod_lt _ (by omega)))
      have hy5:=hNy.later hn5.below
      have hr5:=hn5.back hNy.below
      obtain ⟨R,hR⟩:∃ R,R=A % B:=⟨_,rfl⟩
      rw [←hR] at hlr hr5 ⊢
      have HR:=xJ1 hR
      clear hR hn5
      by_cases hr0:ln R=0
      ·have HR0:=xJ1 (ln_eq_zero.1 hr0)
       go_wp2_with fail
       go_ret
       have e:Nat.gcd X Y=B:=by rw [←HGC.out,Nat.gcd_comm,Nat.gcd_rec,←HR.out,HR0.out,Nat.gcd_zero_left]
       rw [e]
       exact ⟨ay,rfl,hy5⟩
      ·go_wp2_with fail
       refine (word_any _ _ _ B _ (by omega) hy5.seg).mono ?_
       rintro e w6 ⟨rfl,rfl⟩
       go_wp2_with fail
       refine (word_any _ _ _ R _ (by omega) hr5.seg).mono ?_
       rintro e w6 ⟨rfl,rfl⟩
       go_wp2_with fail
       obtain ⟨G,hG⟩:∃ G,G=Nat.gcd B R:=⟨_,rfl⟩
       have hGl:G < 18446744073709551616:=by rw [hG];exact Nat.lt_of_le_of_lt (Nat.gcd_le_right _ (Nat.pos_of_ne_zero fun h=>hr0 (ln_eq_zero.2 h))) (small2 (by omega))
       have hgw:=gcdOfWords_any B R w5 (small2 (by omega)) (small2 (by omega))
       rw [←hG] at hgw
       have HG:=xJ1 hG
       clear hG
       refine hgw.mono ?_
       clear hgw
       rintro e w7 ⟨rfl,hd7⟩
       go_wp2_with fail
       refine (Of_any G _ hGl).mono ?_
       rintro e w8 ⟨a8,rfl,hn8⟩
       go_wp2
       go_ret
       have e:Nat.gcd X Y=G:=by rw [←HGC.out,HG.out,HR.out,Nat.gcd_comm A B,Nat.gcd_rec B A,Nat.gcd_comm B]
       rw [e]
       exact ⟨a8,rfl,hn8.back (hy5.below.trans (hd7.below _))⟩
     ·go_wp2_with fail
      refine (word_any _ _ _ A _ (by omega) hNx.seg).mono ?_
      rintro e w6 ⟨rfl,rfl⟩
      go_wp2_with fail
      refine (word_any _ _ _ B _ (by omega) hNy.seg).mono ?_
      rintro e w6 ⟨rfl,rfl⟩
      go_wp2_with fail
      obtain ⟨G,hG⟩:∃ G,G=Nat.gcd A B:=⟨_,rfl⟩
      have hGl:G < 18446744073709551616:=by rw [hG];exact Nat.lt_of_le_of_lt (Nat.gcd_le_right _ (Nat.pos_of_ne_zero fun h=>hb0 (ln_eq_zero.2 h))) (small2 (by omega))
      have hgw:=gcdOfWords_any A B wr (small2 (by omega)) (small2 (by omega))
      rw [←hG] at hgw
      have HG:=xJ1 hG
      clear hG
      refine hgw.mono ?_
      clear hgw
      rintro e w7 ⟨rfl,hd7⟩
      go_wp2_with fail
      refine (Of_any G _ hGl).mono ?_
      rintro e w8 ⟨a8,rfl,hn8⟩
      go_wp2
      go_ret
      have e:Nat.gcd X Y=G:=by rw [←HGC.out,HG.out]
      rw [e]
      exact ⟨a8,rfl,hn8.back (hNx.below.trans (hd7.below _))⟩
 ·have HL:Hid (Y≤X):=Nat.le_of_not_lt hlt
  have hcm:¬ cmpI X Y < 0:=by unfold cmpI;rw [if_neg hlt];split <;> simp
  clear hlt
  go_enter Tryz.func119,Tryz.ntmps119
  go_wp2_with fail
  refine (Norm_any _ _ _ X _ hc (by omega) hS).mono ?_
  rintro e w1 ⟨a1,rfl,hn1⟩
  go_wp2_with fail
  refine (Norm_any _ _ _ Y _ hc2 (by omega) (hS2.below hn1.below (Nat.le_refl _))).mono ?_
  rintro e w2 ⟨a2,rfl,hn2⟩
  go_wp2_with fail
  refine (Cmp_any _ _ _ _ X _ _ Y _ (Nat.le_refl _) (by omega) (hn1.later hn2.below).seg (Nat.le_refl _) (by omega) hn2.seg).mono ?_
  rintro e w3 ⟨rfl,hdr⟩
  go_wp2_with fail
  have hs1:=(hn1.later hn2.below).later (hdr.below _)
  have hs2:=(hn2.back hn1.below).later (hdr.below _)
  go_loopg [5,6] Y (fun k vx vy wr=>∃ ax ay A B,vx=.slice ax (ln A) (ln A)∧vy=.slice ay (ln B) (ln B)∧B=k∧B≤A∧ln A≤70368744177663∧Nat.gcd A B=Nat.gcd X Y∧New w wr ax A (ln A)∧New w wr ay B (ln B))
  case atStart=>exact ⟨a1,a2,X,Y,rfl,rfl,rfl,HL.out,by omega,rfl,hs1,hs2⟩
  case round =>
   clear hn1 hn2 hs1 hs2 hdr
   obtain ⟨ax,ay,A,B,rfl,rfl,hk,hBA,hA9,hg,hNx,hNy⟩:=hrel
   have hlm:ln B≤ln A:=xZ4 hBA
   have HBA:=xJ1 hBA
   have HGC:=xJ1 hg
   have HK:=xJ1 hk
   clear hBA hg hk
   by_cases hb3:2 < ln B
   ·go_wp2_with fail
    refine (gcdStep_any ax ay _ _ A B _ rfl rfl hA9 hNx.seg hNy.seg hb3 HBA.out).mono ?_
    rintro e w5 ⟨b1,b2,P,Q,rfl,hQP,hPB,hgc,hn5,hn6⟩
    have HQ:=xJ1 hQP
    have HP:=xJ1 hPB
    have HG5:=xJ1 hgc
    clear hQP hPB hgc
    go_wp2_with fail
    go_roundg Q
    case measure=>have:=HQ.out;have:=HP.out;have:=HK.out;omega
    case rel =>
     have hlP:ln P≤ln B:=xZ4 HP.out
     refine ⟨b1,b2,P,Q,rfl,rfl,rfl,Nat.le_of_lt HQ.out,by omega,by rw [HG5.out,HGC.out],?_,hn6.back hNy.below⟩
     rcases hn5 with h5 | ⟨rfl,rfl⟩
     ·exact h5.back hNy.below
     ·exact hNy.later hn6.below
   ·by_cases hb0:ln B=0
    ·have hB0:B=0:=ln_eq_zero.1 hb0
     have HB0:=xJ1 hB0
     clear hB0
     go_wp2_with fail
     go_ret
     have e:Nat.gcd X Y=A:=by rw [←HGC.out,HB0.out,Nat.gcd_zero_right]
     rw [e]
     exact ⟨ax,rfl,hNx⟩
    ·by_cases ha:2 < ln A
     ·have hBp:B≠0:=fun h=>hb0 (ln_eq_zero.2 h)
      go_wp2_with fail
      refine (euclidStep_any ax ay _ _ A _ B _ (Nat.le_refl _) hA9 (by omega) hNx.seg hNy.seg hBp).mono ?_
      rintro e w5 ⟨ar,rfl,hn5⟩
      have hlr:ln (A % B)≤ln B:=xZ4 (Nat.le_of_lt (Nat.mod_lt _ (by omega)))
      have hy5:=hNy.later hn5.below
      have hr5:=hn5.back hNy.below
      obtain ⟨R,hR⟩:∃ R,R=A % B:=⟨_,rfl⟩
      rw [←hR] at hlr hr5 ⊢
      have HR:=xJ1 hR
      clear hR hn5
      by_cases hr0:ln R=0
      ·have HR0:=xJ1 (ln_eq_zero.1 hr0)
       go_wp2_with fail
       go_ret
       have e:Nat.gcd X Y=B:=by rw [←HGC.out,Nat.gcd_comm,Nat.gcd_rec,←HR.out,HR0.out,Nat.gcd_zero_left]
       rw [e]
       exact ⟨ay,rfl,hy5⟩
      ·go_wp2_with fail
       refine (word_any _ _ _ B _ (by omega) hy5.seg).mono ?_
       rintro e w6 ⟨rfl,rfl⟩
       go_wp2_with fail
       refine (word_any _ _ _ R _ (by omega) hr5.seg).mono ?_
       rintro e w6 ⟨rfl,rfl⟩
       go_wp2_with fail
       obtain ⟨G,hG⟩:∃ G,G=Nat.gcd B R:=⟨_,rfl⟩
       have hGl:G < 18446744073709551616:=by rw [hG];exact Nat.lt_of_le_of_lt (Nat.gcd_le_right _ (Nat.pos_of_ne_zero fun h=>hr0 (ln_eq_zero.2 h))) (small2 (by omega))
       have hgw:=gcdOfWords_any B R w5 (small2 (by omega)) (small2 (by omega))
       rw [←hG] at hgw
       have HG:=xJ1 hG
       clear hG
       refine hgw.mono ?_
       clear hgw
       rintro e w7 ⟨rfl,hd7⟩
       go_wp2_with fail
       refine (Of_any G _ hGl).mono ?_
       rintro e w8 ⟨a8,rfl,hn8⟩
       go_wp2
       go_ret
       have e:Nat.gcd X Y=G:=by rw [←HGC.out,HG.out,HR.out,Nat.gcd_comm A B,Nat.gcd_rec B A,Nat.gcd_comm B]
       rw [e]
       exact ⟨a8,rfl,hn8.back (hy5.below.trans (hd7.below _))⟩
     ·go_wp2_with fail
      refine (word_any _ _ _ A _ (by omega) hNx.seg).mono ?_
      rintro e w6 ⟨rfl,rfl⟩
      go_wp2_with fail
      refine (word_any _ _ _ B _ (by omega) hNy.seg).mono ?_
      rintro e w6 ⟨rfl,rfl⟩
      go_wp2_with fail
      obtain ⟨G,hG⟩:∃ G,G=Nat.gcd A B:=⟨_,rfl⟩
      have hGl:G < 18446744073709551616:=by rw [hG];exact Nat.lt_of_le_of_lt (Nat.gcd_le_right _ (Nat.pos_of_ne_zero fun h=>hb0 (ln_eq_zero.2 h))) (small2 (by omega))
      have hgw:=gcdOfWords_any A B wr (small2 (by omega)) (small2 (by omega))
      rw [←hG] at hgw
      have HG:=xJ1 hG
      clear hG
      refine hgw.mono ?_
      clear hgw
      rintro e w7 ⟨rfl,hd7⟩
      go_wp2_with fail
      refine (Of_any G _ hGl).mono ?_
      rintro e w8 ⟨a8,rfl,hn8⟩
      go_wp2
      go_ret
      have e:Nat.gcd X Y=G:=by rw [←HGC.out,HG.out]
      rw [e]
      exact ⟨a8,rfl,hn8.back (hNx.below.trans (hd7.below _))⟩
theorem Gcd_is (ao ao2:Option Addr) (n cap X m cap2 Y G:Nat) (w:World) (hc:n≤cap) (hm:n≤70368744177663) (hS:Seg w ao X n) (hc2:m≤cap2) (hm2:m≤70368744177663) (hS2:Seg w ao2 Y m) (h:Nat.gcd X Y=G) :
  Calls Tryz.prog 119 #[.slice ao n cap,.slice ao2 m cap2] w fun e w'=>∃ ag,e=.returned (.slice ag (ln G) (ln G))∧New w w' ag G (ln G):=by
 have:=Gcd_any ao ao2 n cap X m cap2 Y w hc hm hS hc2 hm2 hS2
 rwa [h] at this
theorem results_cct {fn:Func} {p p2 p3:Tmp} {ty ty2:TypeId} (h:fn.results=#[.cell p ty,.cell p2 ty2,.tmp p3]) (tmps:Array Value) (P:Program) (w:World) :
  (results fn tmps).run P w=((asAddr (tmps.getD p undef)).run P w).andThen fun a w1=>((loadVar ty a).run P w1).andThen fun v w2=>((asAddr (tmps.getD p2 undef)).run P w2).andThen fun a2 w3=>((loadVar ty2 a2).run P w3).andThen fun v2 w4=>.ok (.tuple #[v,v2,tmps.getD p3 undef]) w4:=by
 simp only [results,h]
 simp [Sem.run_bind]
structure Mid (lo hi:Nat) (w w':World):Prop where
 os:w'.os=w.os
 tape:w'.tape=w.tape
 output:w'.output=w.output
 size:w.heap.size≤w'.heap.size
 other:∀ k,k < w.heap.size→(k < lo∨hi≤k)→w'.heap[k]?=w.heap[k]?
theorem Mid.refl (lo hi:Nat) (w:World):Mid lo hi w w:=⟨rfl,rfl,rfl,Nat.le_refl _,fun _ _ _=>rfl⟩
theorem Mid.set {lo hi:Nat} {w w':World} (h:Mid lo hi w w') (c o:Nat) (h1:lo≤c) (h2:c < hi) (u:Value):Mid lo hi w (w'.setCell ⟨c,o,none⟩ u) :=
 ⟨h.os,h.tape,h.output,by have:=h.size;simpa [World.setCell] using this,fun k hk hor=>by rw [Below.heap_setCell _ _ _ _ (by show k≠c;omega)];exact h.other k hk hor⟩
theorem Mid.drew {lo hi:Nat} {w w':World} (h:Mid lo hi w w'):Mid lo hi w w'.drew:=⟨h.os,h.tape,h.output,h.size,h.other⟩
theorem Mid.below {lo hi:Nat} {w w':World} (h:Mid lo hi w w') (hl:lo≤w.heap.size):Below lo w w':=⟨h.os,h.tape,h.output,h.size,fun k hk=>h.other k (by omega) (Or.inl hk)⟩
theorem New.mid {w L w6 w':World} {a:Option Addr} {Z n:Nat} (h:New L w6 a Z n) (hB:Below w.heap.size w L) (hM:Mid w.heap.size L.heap.size w6 w'):New w w' a Z n:=by
 have hs:=Nat.le_trans hB.size h.below.size
 refine ⟨⟨h.seg.1,fun hn=>?_⟩,(hB.trans (h.below.mono hB.size)).trans (hM.below hs),fun hn=>?_⟩
 ·obtain ⟨b,off,rfl,hb,hr⟩:=h.fresh hn
  refine ⟨b,off,rfl,Nat.lt_of_lt_of_le hr.lt hM.size,fun i hi=>?_⟩
  rw [World.cell?_of_block (w:=w6) (a:=⟨b,off+i,none⟩) (hM.other b hr.lt (Or.inr hb))]
  exact h.seg.cells i hi
 ·obtain ⟨b,off,e,hb,hr⟩:=h.fresh hn
  have hlt:=hr.lt
  obtain ⟨cur,t,hh⟩:=hr
  exact ⟨b,off,e,Nat.le_trans hB.size hb,cur,t,by rw [hM.other b hlt (Or.inr hb)];exact hh⟩
structure Fre (lo:Nat) (w':World) (ao:Option Addr) (Z n:Nat):Prop where
 seg:Seg w' ao Z n
 fresh:0 < n→∃ b off,ao=some ⟨b,off,none⟩∧lo≤b∧Row w' b
theorem New.fre {w w':World} {a:Option Addr} {Z n:Nat} (h:New w w' a Z n):Fre w.heap.size w' a Z n:=⟨h.seg,h.fresh⟩
theorem Fre.later {lo:Nat} {w1 w':World} {a:Option Addr} {Z n:Nat} (h:Fre lo w1 a Z n) (hb:Below w1.heap.size w1 w'):Fre lo w' a Z n :=
 ⟨h.seg.below hb (Nat.le_refl _),fun hn=>by obtain ⟨b,off,e,hlt,hr⟩:=h.fresh hn;exact ⟨b,off,e,hlt,hr.below hb hr.lt⟩⟩
theorem Fre.drew {lo:Nat} {w':World} {a:Option Addr} {Z n:Nat} (h:Fre lo w' a Z n):Fre lo w'.drew a Z n:=⟨h.seg,h.fresh⟩
theorem Fre.mid {lo hi:Nat} {w6 w':World} {a:Option Addr} {Z n:Nat} (h:Fre hi w6 a Z n) (hM:Mid lo hi w6 w'):Fre hi w' a Z n:=by
 refine ⟨⟨h.seg.1,fun hn=>?_⟩,fun hn=>?_⟩
 ·obtain ⟨b,off,rfl,hb,hr⟩:=h.fresh hn
  refine ⟨b,off,rfl,Nat.lt_of_lt_of_le hr.lt hM.size,fun i hi=>?_⟩
  rw [World.cell?_of_block (w:=w6) (a:=⟨b,off+i,none⟩) (hM.other b hr.lt (Or.inr hb))]
  exact h.seg.cells i hi
 ·obtain ⟨b,off,e,hb,hr⟩:=h.fresh hn
  have hlt:=hr.lt
  obtain ⟨cur,t,hh⟩:=hr
  exact ⟨b,off,e,hb,cur,t,by rw [hM.other b hlt (Or.inr hb)];exact hh⟩
theorem set2_same {w:World} {c:Nat} {u v u0 v0:Value} (h0:w.cell? ⟨c,0,none⟩=some u0) (h1:w.cell? ⟨c,1,none⟩=some v0) :
  ((w.setCell ⟨c,0,none⟩ u).setCell ⟨c,1,none⟩ v).cell? ⟨c,0,none⟩=some u∧((w.setCell ⟨c,0,none⟩ u).setCell ⟨c,1,none⟩ v).cell? ⟨c,1,none⟩=some v:=by
 refine ⟨?_,?_⟩
 ·rw [World.cell?_setCell_other _ _ _ _ (fun e=>by simp at e)]
  exact World.cell?_setCell_same _ _ _ h0
 ·exact World.cell?_setCell_same (u:=v0) _ _ _ (by rw [World.cell?_setCell_other _ _ _ _ (fun e=>by simp at e)];exact h1)
theorem New.ret2 {w W w3:World} {a:Option Addr} {Z n c d:Nat} (h:New W w3 a Z n) (hB:Below w.heap.size w W) (hc:w.heap.size≤c) (hcW:c < W.heap.size) (hd:w.heap.size≤d) (hdW:d < W.heap.size) (u v u2 v2:Value) :
  New w ((((w3.setCell ⟨c,0,none⟩ u).setCell ⟨c,1,none⟩ v).setCell ⟨d,0,none⟩ u2).setCell ⟨d,1,none⟩ v2) a Z n:=by
 have hk:Wr c 0 2 w3 ((w3.setCell ⟨c,0,none⟩ u).setCell ⟨c,1,none⟩ v):=((Wr.refl _ _ _ _).setCell 0 (by omega) (by omega) u).setCell 1 (by omega) (by omega) v
 generalize (w3.setCell ⟨c,0,none⟩ u).setCell ⟨c,1,none⟩ v=w4 at hk ⊢
 have hk2:Wr d 0 2 w4 ((w4.setCell ⟨d,0,none⟩ u2).setCell ⟨d,1,none⟩ v2):=((Wr.refl _ _ _ _).setCell 0 (by omega) (by omega) u2).setCell 1 (by omega) (by omega) v2
 have hs3:=Nat.le_trans hB.size h.below.size
 refine ⟨?_,((hB.trans (h.below.mono hB.size)).trans (hk.below hc hs3)).trans (hk2.below hd (Nat.le_trans hs3 hk.size)),fun hn=>?_⟩
 ·by_cases hn:0 < n
  ·obtain ⟨b,off,rfl,hb,hr⟩:=h.fresh hn
   refine (h.seg.wr hk fun o e=>?_).wr hk2 fun o e=>?_
   ·simp only [Option.some.injEq,Addr.mk.injEq] at e
    omega
   ·simp only [Option.some.injEq,Addr.mk.injEq] at e
    omega
  ·exact ⟨h.seg.1,fun h=>absurd h hn⟩
 ·obtain ⟨b,off,e,hb,hr⟩:=h.fresh hn
  exact ⟨b,off,e,Nat.le_trans hB.size hb,((hr.of_wr hk (by omega)).setCell _ _).setCell _ _⟩
theorem res_eq3 {s t:Bool} {a b:Option Addr} {X Y:Nat} {Z V:Int} {e:Int} (hz:sg s X=Z) (hv:sg t Y=V):Ending.returned (.tuple #[.agg #[.bool (s && decide (0 < ln X)),.slice a (ln X) (ln X)],.agg #[.bool (t && decide (0 < ln Y)),.slice b (ln Y) (ln Y)],.int .i64 e]) =
  .returned (.tuple #[.agg #[.bool (ng Z),.slice a (ln (am Z)) (ln (am Z))],.agg #[.bool (ng V),.slice b (ln (am V)) (ln (am V))],.int .i64 e]):=by
 subst hz hv;rw [am_sg,ng_sg,am_sg,ng_sg]
set_option maxHeartbeats 2000000 in
set_option maxRecDepth 100000 in
theorem wQuo_is (s:Bool) (ao:Option Addr) (n cap X:Nat) (t:Bool) (ao2:Option Addr) (m cap2 Y P R:Nat) (Zq Zr:Int) (w:World) (hc:n≤cap) (hm:n≤70368744177663) (hS:Seg w ao X n) (hc2:m≤cap2) (hm2:m≤70368744177663) (hS2:Seg w ao2 Y m) (h:X=P*Y+R) (hR:R < Y) (hq:sg (s != t) P=Zq) (hr:sg s R=Zr) :
  Calls Tryz.prog 99 #[.agg #[.bool s,.slice ao n cap],.agg #[.bool t,.slice ao2 m cap2]] w fun e w'=>∃ aq ar,e=.returned (.tuple #[.agg #[.bool (ng Zq),.slice aq (ln (am Zq)) (ln (am Zq))],.agg #[.bool (ng Zr),.slice ar (ln (am Zr)) (ln (am Zr))],.int .i64 0])∧New w w' aq (am Zq) (ln (am Zq))∧New w w' ar (am Zr) (ln (am Zr)):=by
 have hP:P≤X:=by
  have h1:P*1≤P*Y:=Nat.mul_le_mul_left P (by omega)
  omega
 have hlp:ln P≤70368744177664:=by have:=xQ4 (Nat.lt_of_le_of_lt hP hS.1);omega
 have hlr:ln R≤70368744177664:=by have:=xQ4 (Nat.lt_trans hR hS2.1);omega
 have HD:∀ w',Seg w' ao X n→Seg w' ao2 Y m→_:=fun w' k1 k2=>Div_is ao ao2 n cap X m cap2 Y P R w' hc hm k1 hc2 hm2 k2 h hR
 have HDh:=xQ1 HD
 clear h hR HD hP
 go_enter Tryz.func99,Tryz.ntmps99
 go_wp2_with fail
 obtain ⟨W,hW⟩:∃ W,((((w.alloc (.cells #[.bool s,.slice ao n cap] 53)).alloc (.cells #[.bool t,.slice ao2 m cap2] 53)).alloc (.cells #[.bool false,.slice none 0 0] 53)).alloc (.cells #[.bool false,.slice none 0 0] 53))=W:=⟨_,rfl⟩
 have q00:W.cell? ⟨w.heap.size,0,none⟩=some (.bool s):=by subst hW;go_simp
 have q01:W.cell? ⟨w.heap.size,1,none⟩=some (.slice ao n cap):=by subst hW;go_simp
 have q10:W.cell? ⟨w.heap.size+1,0,none⟩=some (.bool t):=by subst hW;go_simp
 have q11:W.cell? ⟨w.heap.size+1,1,none⟩=some (.slice ao2 m cap2):=by subst hW;go_simp
 have r00:W.cell? ⟨w.heap.size+1+1,0,none⟩=some (.bool false):=by subst hW;go_simp
 have r01:W.cell? ⟨w.heap.size+1+1,1,none⟩=some (.slice none 0 0):=by subst hW;go_simp
 have r10:W.cell? ⟨w.heap.size+1+1+1,0,none⟩=some (.bool false):=by subst hW;go_simp
 have r11:W.cell? ⟨w.heap.size+1+1+1,1,none⟩=some (.slice none 0 0):=by subst hW;go_simp
 have hB:Below w.heap.size w W:=by subst hW;exact (((((Below.refl _ _).alloc (by (try simp only [World.size_alloc]);omega) _).alloc (by (try simp only [World.size_alloc]);omega) _).alloc (by (try simp only [World.size_alloc]);omega) _).alloc (by (try simp only [World.size_alloc]);omega) _)
 have hR0:Row W (w.heap.size+1+1):=by
  have:=xQ9 (((w.alloc (.cells #[.bool s,.slice ao n cap] 53)).alloc (.cells #[.bool t,.slice ao2 m cap2] 53))) #[.bool false,.slice none 0 0] 53
  try simp only [World.size_alloc] at this
  subst hW;exact (this.alloc _)
 have hR1:Row W (w.heap.size+1+1+1):=by
  have:=xQ9 ((((w.alloc (.cells #[.bool s,.slice ao n cap] 53)).alloc (.cells #[.bool t,.slice ao2 m cap2] 53)).alloc (.cells #[.bool false,.slice none 0 0] 53))) #[.bool false,.slice none 0 0] 53
  try simp only [World.size_alloc] at this
  subst hW;exact this
 have hz:W.heap.size=w.heap.size+1+1+1+1:=by subst hW;simp only [World.size_alloc]
 rw [hW]
 clear hW
 have hBW:Below W.heap.size W W:=Below.refl _ _
 refine (HDh.out _ (sb hS hB hBW) (sb hS2 hB hBW)).mono ?_
 rintro e w1 ⟨a1,c1,rfl,hn,hk⟩
 have b1:=hn.below
 replace hBW:=hBW.trans (b1.mono hBW.size)
 replace q00:=xQ0 b1 q00
 replace q01:=xQ0 b1 q01
 replace q10:=xQ0 b1 q10
 replace q11:=xQ0 b1 q11
 replace r00:=xQ0 b1 r00
 replace r01:=xQ0 b1 r01
 replace r10:=xQ0 b1 r10
 replace r11:=xQ0 b1 r11
 replace hR0:=xQ3 b1 hR0
 replace hR1:=xQ3 b1 hR1
 go_wp2_with fail
 replace hBW:=hBW.drew
 replace hn:=hn.drew
 replace hk:=hk.drew
 first
  | go_region_held3 (fun w'=>w'.cell? ⟨w.heap.size,0,none⟩=some (.bool s)∧w'.cell? ⟨w.heap.size,1,none⟩=some (.slice ao n cap)∧w'.cell? ⟨w.heap.size+1,0,none⟩=some (.bool t)∧w'.cell? ⟨w.heap.size+1,1,none⟩=some (.slice ao2 m cap2)∧Below w.heap.size w w')
    (first | exact ⟨q00,q01,q10,q11,hB.trans (hBW.mono hB.size)⟩ | exact kp4 b2 (by assumption) | exact kp4 b3 (by assumption) | exact kp4 b4 (by assumption) | exact kp4 b5 (by assumption) | exact kp4 (xQ2 _) (by assumption) | exact kpS4 (kpS4 (by assumption) (by omega) (by omega) (by omega)) (by omega) (by omega) (by omega))
    (first
     | (go_at_call 122;go_at_call_of 122 (Value.agg #[.bool s,.slice ao n cap]);refine (side_any s _ _).mono ?_;rintro e w2 ⟨rfl,b2⟩;replace hBW:=hBW.trans (b2.mono hBW.size);replace q00:=xQ0 b2 q00;replace q01:=xQ0 b2 q01;replace q10:=xQ0 b2 q10;replace q11:=xQ0 b2 q11;replace r00:=xQ0 b2 r00;replace r01:=xQ0 b2 r01;replace r10:=xQ0 b2 r10;replace r11:=xQ0 b2 r11;replace hR0:=xQ3 b2 hR0;replace hR1:=xQ3 b2 hR1;replace hn:=hn.later b2;replace hk:=hk.later b2)
     | (go_at_call 122;go_at_call_of 122 (Value.agg #[.bool t,.slice ao2 m cap2]);refine (side_any t _ _).mono ?_;rintro e w3 ⟨rfl,b3⟩;replace hBW:=hBW.trans (b3.mono hBW.size);replace q00:=xQ0 b3 q00;replace q01:=xQ0 b3 q01;replace q10:=xQ0 b3 q10;replace q11:=xQ0 b3 q11;replace r00:=xQ0 b3 r00;replace r01:=xQ0 b3 r01;replace r10:=xQ0 b3 r10;replace r11:=xQ0 b3 r11;replace hR0:=xQ3 b3 hR0;replace hR1:=xQ3 b3 hR1;replace hn:=hn.later b3;replace hk:=hk.later b3)
     | (go_at_call 121;go_at_call_of 121 (Value.slice a1 (ln P) (ln P));refine (signed2 a1 (ln P) (ln P) s t _ (by omega)).mono ?_;rintro e w4 ⟨rfl,b4⟩;replace hBW:=hBW.trans (b4.mono hBW.size);replace q00:=xQ0 b4 q00;replace q01:=xQ0 b4 q01;replace q10:=xQ0 b4 q10;replace q11:=xQ0 b4 q11;replace r00:=xQ0 b4 r00;replace r01:=xQ0 b4 r01;replace r10:=xQ0 b4 r10;replace r11:=xQ0 b4 r11;replace hR0:=xQ3 b4 hR0;replace hR1:=xQ3 b4 hR1;replace hn:=hn.later b4;replace hk:=hk.later b4)
     | (go_at_call 121;go_at_call_of 121 (Value.slice c1 (ln R) (ln R));refine (signed1 c1 (ln R) (ln R) s _ (by omega)).mono ?_;rintro e w5 ⟨rfl,b5⟩;replace hBW:=hBW.trans (b5.mono hBW.size);replace q00:=xQ0 b5 q00;replace q01:=xQ0 b5 q01;replace q10:=xQ0 b5 q10;replace q11:=xQ0 b5 q11;replace r00:=xQ0 b5 r00;replace r01:=xQ0 b5 r01;replace r10:=xQ0 b5 r10;replace r11:=xQ0 b5 r11;replace hR0:=xQ3 b5 hR0;replace hR1:=xQ3 b5 hR1;replace hn:=hn.later b5;replace hk:=hk.later b5;have fz0:=fun o=>hR0.frozen o;have fz1:=fun o=>hR1.frozen o))
  | fail
 go_wp2
 refine bodyPost_ret (v:=.tuple #[.agg #[.bool ((s != t) && decide (0 < ln P)),.slice a1 (ln P) (ln P)],.agg #[.bool (s && decide (0 < ln R)),.slice c1 (ln R) (ln R)],.int .i64 0]) (by rw [results_cct rfl];go_simp) rfl ?_
 exact ⟨a1,c1,res_eq3 hq hr,NewI (hn.ret2 hB (by omega) (by omega) (by omega) (by omega) _ _ _ _) hq,NewI (hk.ret2 hB (by omega) (by omega) (by omega) (by omega) _ _ _ _) hr⟩
theorem Seg.later {w1 w':World} {a:Option Addr} {Z n:Nat} (h:Seg w1 a Z n) (hb:Below w1.heap.size w1 w'):Seg w' a Z n:=h.below hb (Nat.le_refl _)
theorem bset {w w':World} {c o:Nat} {u:Value} (h:Below w.heap.size w w') (hc:w.heap.size≤c):Below w.heap.size w (w'.setCell ⟨c,o,none⟩ u):=h.setCell hc _
theorem results_ct {fn:Func} {p u:Tmp} {ty:TypeId} (h:fn.results=#[.cell p ty,.tmp u]) (tmps:Array Value) (P:Program) (w:World) :
  (results fn tmps).run P w=((asAddr (tmps.getD p undef)).run P w).andThen fun a w1=>((loadVar ty a).run P w1).andThen fun v w2=>.ok (.tuple #[v,tmps.getD u undef]) w2:=by
 simp only [results,h]
 simp [Sem.run_bind]
theorem kp3 {w W W':World} {p0 p1 p2:Addr} {v0 v1 v2:Value} (hb:Below W.heap.size W W') (h:W.cell? p0=some v0∧W.cell? p1=some v1∧W.cell? p2=some v2∧Below w.heap.size w W):W'.cell? p0=some v0∧W'.cell? p1=some v1∧W'.cell? p2=some v2∧Below w.heap.size w W' :=
 ⟨xQ0 hb h.1,xQ0 hb h.2.1,xQ0 hb h.2.2.1,h.2.2.2.trans (hb.mono h.2.2.2.size)⟩
theorem kpT2_2 {w W:World} {b0 o0 b1 o1 c:Nat} {v0 v1 u0 u1:Value} (h:W.cell? ⟨b0,o0,none⟩=some v0∧W.cell? ⟨b1,o1,none⟩=some v1∧Below w.heap.size w W) (hne0:c≠b0) (hne1:c≠b1) (hc:w.heap.size≤c) :
  ((W.setCell ⟨c,0,none⟩ u0).setCell ⟨c,1,none⟩ u1).cell? ⟨b0,o0,none⟩=some v0∧((W.setCell ⟨c,0,none⟩ u0).setCell ⟨c,1,none⟩ u1).cell? ⟨b1,o1,none⟩=some v1∧Below w.heap.size w ((W.setCell ⟨c,0,none⟩ u0).setCell ⟨c,1,none⟩ u1) :=
 ⟨by rw [World.cell?_setCell_far _ _ _ _ (by exact hne0),World.cell?_setCell_far _ _ _ _ (by exact hne0)];exact h.1,by rw [World.cell?_setCell_far _ _ _ _ (by exact hne1),World.cell?_setCell_far _ _ _ _ (by exact hne1)];exact h.2.1,((h.2.2.setCell hc _).setCell hc _)⟩
theorem kpT3_3 {w W:World} {b0 o0 b1 o1 b2 o2 c:Nat} {v0 v1 v2 u0 u1 u2:Value} (h:W.cell? ⟨b0,o0,none⟩=some v0∧W.cell? ⟨b1,o1,none⟩=some v1∧W.cell? ⟨b2,o2,none⟩=some v2∧Below w.heap.size w W) (hne0:c≠b0) (hne1:c≠b1) (hne2:c≠b2) (hc:w.heap.size≤c) :
  (((W.setCell ⟨c,0,none⟩ u0).setCell ⟨c,1,none⟩ u1).setCell ⟨c,2,none⟩ u2).cell? ⟨b0,o0,none⟩=some v0∧(((W.setCell ⟨c,0,none⟩ u0).setCell ⟨c,1,none⟩ u1).setCell ⟨c,2,none⟩ u2).cell? ⟨b1,o1,none⟩=some v1∧(((W.setCell ⟨c,0,none⟩ u0).setCell ⟨c,1,none⟩ u1).setCell ⟨c,2,none⟩ u2).cell? ⟨b2,o2,none⟩=some v2∧Below w.heap.size w (((W.setCell ⟨c,0,none⟩ u0).setCell ⟨c,1,none⟩ u1).setCell ⟨c,2,none⟩ u2) :=
 ⟨by rw [World.cell?_setCell_far _ _ _ _ (by exact hne0),World.cell?_setCell_far _ _ _ _ (by exact hne0),World.cell?_setCell_far _ _ _ _ (by exact hne0)];exact h.1,by rw [World.cell?_setCell_far _ _ _ _ (by exact hne1),World.cell?_setCell_far _ _ _ _ (by exact hne1),World.cell?_setCell_far _ _ _ _ (by exact hne1)];exact h.2.1,by rw [World.cell?_setCell_far _ _ _ _ (by exact hne2),World.cell?_setCell_far _ _ _ _ (by exact hne2),World.cell?_setCell_far _ _ _ _ (by exact hne2)];exact h.2.2.1,(((h.2.2.2.setCell hc _).setCell hc _).setCell hc _)⟩
theorem kpT4_3 {w W:World} {b0 o0 b1 o1 b2 o2 b3 o3 c:Nat} {v0 v1 v2 v3 u0 u1 u2:Value} (h:W.cell? ⟨b0,o0,none⟩=some v0∧W.cell? ⟨b1,o1,none⟩=some v1∧W.cell? ⟨b2,o2,none⟩=some v2∧W.cell? ⟨b3,o3,none⟩=some v3∧Below w.heap.size w W) (hne0:c≠b0) (hne1:c≠b1) (hne2:c≠b2) (hne3:c≠b3) (hc:w.heap.size≤c) :
  (((W.setCell ⟨c,0,none⟩ u0).setCell ⟨c,1,none⟩ u1).setCell ⟨c,2,none⟩ u2).cell? ⟨b0,o0,none⟩=some v0∧(((W.setCell ⟨c,0,none⟩ u0).setCell ⟨c,1,none⟩ u1).setCell ⟨c,2,none⟩ u2).cell? ⟨b1,o1,none⟩=some v1∧(((W.setCell ⟨c,0,none⟩ u0).setCell ⟨c,1,none⟩ u1).setCell ⟨c,2,none⟩ u2).cell? ⟨b2,o2,none⟩=some v2∧(((W.setCell ⟨c,0,none⟩ u0).setCell ⟨c,1,none⟩ u1).setCell ⟨c,2,none⟩ u2).cell? ⟨b3,o3,none⟩=some v3∧Below w.heap.size w (((W.setCell ⟨c,0,none⟩ u0).setCell ⟨c,1,none⟩ u1).setCell ⟨c,2,none⟩ u2) :=
 ⟨by rw [World.cell?_setCell_far _ _ _ _ (by exact hne0),World.cell?_setCell_far _ _ _ _ (by exact hne0),World.cell?_setCell_far _ _ _ _ (by exact hne0)];exact h.1,by rw [World.cell?_setCell_far _ _ _ _ (by exact hne1),World.cell?_setCell_far _ _ _ _ (by exact hne1),World.cell?_setCell_far _ _ _ _ (by exact hne1)];exact h.2.1,by rw [World.cell?_setCell_far _ _ _ _ (by exact hne2),World.cell?_setCell_far _ _ _ _ (by exact hne2),World.cell?_setCell_far _ _ _ _ (by exact hne2)];exact h.2.2.1,by rw [World.cell?_setCell_far _ _ _ _ (by exact hne3),World.cell?_setCell_far _ _ _ _ (by exact hne3),World.cell?_setCell_far _ _ _ _ (by exact hne3)];exact h.2.2.2.1,(((h.2.2.2.2.setCell hc _).setCell hc _).setCell hc _)⟩
theorem kpT6_3 {w W:World} {b0 o0 b1 o1 b2 o2 b3 o3 b4 o4 b5 o5 c:Nat} {v0 v1 v2 v3 v4 v5 u0 u1 u2:Value} (h:W.cell? ⟨b0,o0,none⟩=some v0∧W.cell? ⟨b1,o1,none⟩=some v1∧W.cell? ⟨b2,o2,none⟩=some v2∧W.cell? ⟨b3,o3,none⟩=some v3∧W.cell? ⟨b4,o4,none⟩=some v4∧W.cell? ⟨b5,o5,none⟩=some v5∧Below w.heap.size w W) (hne0:c≠b0) (hne1:c≠b1) (hne2:c≠b2) (hne3:c≠b3) (hne4:c≠b4) (hne5:c≠b5) (hc:w.heap.size≤c) :
  (((W.setCell ⟨c,0,none⟩ u0).setCell ⟨c,1,none⟩ u1).setCell ⟨c,2,none⟩ u2).cell? ⟨b0,o0,none⟩=some v0∧(((W.setCell ⟨c,0,none⟩ u0).setCell ⟨c,1,none⟩ u1).setCell ⟨c,2,none⟩ u2).cell? ⟨b1,o1,none⟩=some v1∧(((W.setCell ⟨c,0,none⟩ u0).setCell ⟨c,1,none⟩ u1).setCell ⟨c,2,none⟩ u2).cell? ⟨b2,o2,none⟩=some v2∧(((W.setCell ⟨c,0,none⟩ u0).setCell ⟨c,1,none⟩ u1).setCell ⟨c,2,none⟩ u2).cell? ⟨b3,o3,none⟩=some v3∧(((W.setCell ⟨c,0,none⟩ u0).setCell ⟨c,1,none⟩ u1).setCell ⟨c,2,none⟩ u2).cell? ⟨b4,o4,none⟩=some v4∧(((W.setCell ⟨c,0,none⟩ u0).setCell ⟨c,1,none⟩ u1).setCell ⟨c,2,none⟩ u2).cell? ⟨b5,o5,none⟩=some v5∧Below w.heap.size w (((W.setCell ⟨c,0,none⟩ u0).setCell ⟨c,1,none⟩ u1).setCell ⟨c,2,none⟩ u2) :=
 ⟨by rw [World.cell?_setCell_far _ _ _ _ (by exact hne0),World.cell?_setCell_far _ _ _ _ (by exact hne0),World.cell?_setCell_far _ _ _ _ (by exact hne0)];exact h.1,by rw [World.cell?_setCell_far _ _ _ _ (by exact hne1),World.cell?_setCell_far _ _ _ _ (by exact hne1),World.cell?_setCell_far _ _ _ _ (by exact hne1)];exact h.2.1,by rw [World.cell?_setCell_far _ _ _ _ (by exact hne2),World.cell?_setCell_far _ _ _ _ (by exact hne2),World.cell?_setCell_far _ _ _ _ (by exact hne2)];exact h.2.2.1,by rw [World.cell?_setCell_far _ _ _ _ (by exact hne3),World.cell?_setCell_far _ _ _ _ (by exact hne3),World.cell?_setCell_far _ _ _ _ (by exact hne3)];exact h.2.2.2.1,by rw [World.cell?_setCell_far _ _ _ _ (by exact hne4),World.cell?_setCell_far _ _ _ _ (by exact hne4),World.cell?_setCell_far _ _ _ _ (by exact hne4)];exact h.2.2.2.2.1,by rw [World.cell?_setCell_far _ _ _ _ (by exact hne5),World.cell?_setCell_far _ _ _ _ (by exact hne5),World.cell?_setCell_far _ _ _ _ (by exact hne5)];exact h.2.2.2.2.2.1,(((h.2.2.2.2.2.2.setCell hc _).setCell hc _).setCell hc _)⟩
theorem kpT8_2 {w W:World} {b0 o0 b1 o1 b2 o2 b3 o3 b4 o4 b5 o5 b6 o6 b7 o7 c:Nat} {v0 v1 v2 v3 v4 v5 v6 v7 u0 u1:Value} (h:W.cell? ⟨b0,o0,none⟩=some v0∧W.cell? ⟨b1,o1,none⟩=some v1∧W.cell? ⟨b2,o2,none⟩=some v2∧W.cell? ⟨b3,o3,none⟩=some v3∧W.cell? ⟨b4,o4,none⟩=some v4∧W.cell? ⟨b5,o5,none⟩=some v5∧W.cell? ⟨b6,o6,none⟩=some v6∧W.cell? ⟨b7,o7,none⟩=some v7∧Below w.heap.size w W) (hne0:c≠b0) (hne1:c≠b1) (hne2:c≠b2) (hne3:c≠b3) (hne4:c≠b4) (hne5:c≠b5) (hne6:c≠b6) (hne7:c≠b7) (hc:w.heap.size≤c) :
  ((W.setCell ⟨c,0,none⟩ u0).setCell ⟨c,1,none⟩ u1).cell? ⟨b0,o0,none⟩=some v0∧((W.setCell ⟨c,0,none⟩ u0).setCell ⟨c,1,none⟩ u1).cell? ⟨b1,o1,none⟩=some v1∧((W.setCell ⟨c,0,none⟩ u0).setCell ⟨c,1,none⟩ u1).cell? ⟨b2,o2,none⟩=some v2∧((W.setCell ⟨c,0,none⟩ u0).setCell ⟨c,1,none⟩ u1).cell? ⟨b3,o3,none⟩=some v3∧((W.setCell ⟨c,0,none⟩ u0).setCell ⟨c,1,none⟩ u1).cell? ⟨b4,o4,none⟩=some v4∧((W.setCell ⟨c,0,none⟩ u0).setCell ⟨c,1,none⟩ u1).cell? ⟨b5,o5,none⟩=some v5∧((W.setCell ⟨c,0,none⟩ u0).setCell ⟨c,1,none⟩ u1).cell? ⟨b6,o6,none⟩=some v6∧((W.setCell ⟨c,0,none⟩ u0).setCell ⟨c,1,none⟩ u1).cell? ⟨b7,o7,none⟩=some v7∧Below w.heap.size w ((W.setCell ⟨c,0,none⟩ u0).setCell ⟨c,1,none⟩ u1) :=
 ⟨by rw [World.cell?_setCell_far _ _ _ _ (by exact hne0),World.cell?_setCell_far _ _ _ _ (by exact hne0)];exact h.1,by rw [World.cell?_setCell_far _ _ _ _ (by exact hne1),World.cell?_setCell_far _ _ _ _ (by exact hne1)];exact h.2.1,by rw [World.cell?_setCell_far _ _ _ _ (by exact hne2),World.cell?_setCell_far _ _ _ _ (by exact hne2)];exact h.2.2.1,by rw [World.cell?_setCell_far _ _ _ _ (by exact hne3),World.cell?_setCell_far _ _ _ _ (by exact hne3)];exact h.2.2.2.1,by rw [World.cell?_setCell_far _ _ _ _ (by exact hne4),World.cell?_setCell_far _ _ _ _ (by exact hne4)];exact h.2.2.2.2.1,by rw [World.cell?_setCell_far _ _ _ _ (by exact hne5),World.cell?_setCell_far _ _ _ _ (by exact hne5)];exact h.2.2.2.2.2.1,by rw [World.cell?_setCell_far _ _ _ _ (by exact hne6),World.cell?_setCell_far _ _ _ _ (by exact hne6)];exact h.2.2.2.2.2.2.1,by rw [World.cell?_setCell_far _ _ _ _ (by exact hne7),World.cell?_setCell_far _ _ _ _ (by exact hne7)];exact h.2.2.2.2.2.2.2.1,((h.2.2.2.2.2.2.2.2.setCell hc _).setCell hc _)⟩
theorem kpT8_3 {w W:World} {b0 o0 b1 o1 b2 o2 b3 o3 b4 o4 b5 o5 b6 o6 b7 o7 c:Nat} {v0 v1 v2 v3 v4 v5 v6 v7 u0 u1 u2:Value} (h:W.cell? ⟨b0,o0,none⟩=some v0∧W.cell? ⟨b1,o1,none⟩=some v1∧W.cell? ⟨b2,o2,none⟩=some v2∧W.cell? ⟨b3,o3,none⟩=some v3∧W.cell? ⟨b4,o4,none⟩=some v4∧W.cell? ⟨b5,o5,none⟩=some v5∧W.cell? ⟨b6,o6,none⟩=some v6∧W.cell? ⟨b7,o7,none⟩=some v7∧Below w.heap.size w W) (hne0:c≠b0) (hne1:c≠b1) (hne2:c≠b2) (hne3:c≠b3) (hne4:c≠b4) (hne5:c≠b5) (hne6:c≠b6) (hne7:c≠b7) (hc:w.heap.size≤c) :
  (((W.setCell ⟨c,0,none⟩ u0).setCell ⟨c,1,none⟩ u1).setCell ⟨c,2,none⟩ u2).cell? ⟨b0,o0,none⟩=some v0∧(((W.setCell ⟨c,0,none⟩ u0).setCell ⟨c,1,none⟩ u1).setCell ⟨c,2,none⟩ u2).cell? ⟨b1,o1,none⟩=some v1∧(((W.setCell ⟨c,0,none⟩ u0).setCell ⟨c,1,none⟩ u1).setCell ⟨c,2,none⟩ u2).cell? ⟨b2,o2,none⟩=some v2∧(((W.setCell ⟨c,0,none⟩ u0).setCell ⟨c,1,none⟩ u1).setCell ⟨c,2,none⟩ u2).cell? ⟨b3,o3,none⟩=some v3∧(((W.setCell ⟨c,0,none⟩ u0).setCell ⟨c,1,none⟩ u1).setCell ⟨c,2,none⟩ u2).cell? ⟨b4,o4,none⟩=some v4∧(((W.setCell ⟨c,0,none⟩ u0).setCell ⟨c,1,none⟩ u1).setCell ⟨c,2,none⟩ u2).cell? ⟨b5,o5,none⟩=some v5∧(((W.setCell ⟨c,0,none⟩ u0).setCell ⟨c,1,none⟩ u1).setCell ⟨c,2,none⟩ u2).cell? ⟨b6,o6,none⟩=some v6∧(((W.setCell ⟨c,0,none⟩ u0).setCell ⟨c,1,none⟩ u1).setCell ⟨c,2,none⟩ u2).cell? ⟨b7,o7,none⟩=some v7∧Below w.heap.size w (((W.setCell ⟨c,0,none⟩ u0).setCell ⟨c,1,none⟩ u1).setCell ⟨c,2,none⟩ u2) :=
 ⟨by rw [World.cell?_setCell_far _ _ _ _ (by exact hne0),World.cell?_setCell_far _ _ _ _ (by exact hne0),World.cell?_setCell_far _ _ _ _ (by exact hne0)];exact h.1,by rw [World.cell?_setCell_far _ _ _ _ (by exact hne1),World.cell?_setCell_far _ _ _ _ (by exact hne1),World.cell?_setCell_far _ _ _ _ (by exact hne1)];exact h.2.1,by rw [World.cell?_setCell_far _ _ _ _ (by exact hne2),World.cell?_setCell_far _ _ _ _ (by exact hne2),World.cell?_setCell_far _ _ _ _ (by exact hne2)];exact h.2.2.1,by rw [World.cell?_setCell_far _ _ _ _ (by exact hne3),World.cell?_setCell_far _ _ _ _ (by exact hne3),World.cell?_setCell_far _ _ _ _ (by exact hne3)];exact h.2.2.2.1,by rw [World.cell?_setCell_far _ _ _ _ (by exact hne4),World.cell?_setCell_far _ _ _ _ (by exact hne4),World.cell?_setCell_far _ _ _ _ (by exact hne4)];exact h.2.2.2.2.1,by rw [World.cell?_setCell_far _ _ _ _ (by exact hne5),World.cell?_setCell_far _ _ _ _ (by exact hne5),World.cell?_setCell_far _ _ _ _ (by exact hne5)];exact h.2.2.2.2.2.1,by rw [World.cell?_setCell_far _ _ _ _ (by exact hne6),World.cell?_setCell_far _ _ _ _ (by exact hne6),World.cell?_setCell_far _ _ _ _ (by exact hne6)];exact h.2.2.2.2.2.2.1,by rw [World.cell?_setCell_far _ _ _ _ (by exact hne7),World.cell?_setCell_far _ _ _ _ (by exact hne7),World.cell?_setCell_far _ _ _ _ (by exact hne7)];exact h.2.2.2.2.2.2.2.1,(((h.2.2.2.2.2.2.2.2.setCell hc _).setCell hc _).setCell hc _)⟩
theorem kpT10_3 {w W:World} {b0 o0 b1 o1 b2 o2 b3 o3 b4 o4 b5 o5 b6 o6 b7 o7 b8 o8 b9 o9 c:Nat} {v0 v1 v2 v3 v4 v5 v6 v7 v8 v9 u0 u1 u2:Value} (h:W.cell? ⟨b0,o0,none⟩=some v0∧W.cell? ⟨b1,o1,none⟩=some v1∧W.cell? ⟨b2,o2,none⟩=some v2∧W.cell? ⟨b3,o3,none⟩=some v3∧W.cell? ⟨b4,o4,none⟩=some v4∧W.cell? ⟨b5,o5,none⟩=some v5∧W.cell? ⟨b6,o6,none⟩=some v6∧W.cell? ⟨b7,o7,none⟩=some v7∧W.cell? ⟨b8,o8,none⟩=some v8∧W.cell? ⟨b9,o9,none⟩=some v9∧Below w.heap.size w W) (hne0:c≠b0) (hne1:c≠b1) (hne2:c≠b2) (hne3:c≠b3) (hne4:c≠b4) (hne5:c≠b5) (hne6:c≠b6) (hne7:c≠b7) (hne8:c≠b8) (hne9:c≠b9) (hc:w.heap.size≤c) :
  (((W.setCell ⟨c,0,none⟩ u0).setCell ⟨c,1,none⟩ u1).setCell ⟨c,2,none⟩ u2).cell? ⟨b0,o0,none⟩=some v0∧(((W.setCell ⟨c,0,none⟩ u0).setCell ⟨c,1,none⟩ u1).setCell ⟨c,2,none⟩ u2).cell? ⟨b1,o1,none⟩=some v1∧(((W.setCell ⟨c,0,none⟩ u0).setCell ⟨c,1,none⟩ u1).setCell ⟨c,2,none⟩ u2).cell? ⟨b2,o2,none⟩=some v2∧(((W.setCell ⟨c,0,none⟩ u0).setCell ⟨c,1,none⟩ u1).setCell ⟨c,2,none⟩ u2).cell? ⟨b3,o3,none⟩=some v3∧(((W.setCell ⟨c,0,none⟩ u0).setCell ⟨c,1,none⟩ u1).setCell ⟨c,2,none⟩ u2).cell? ⟨b4,o4,none⟩=some v4∧(((W.setCell ⟨c,0,none⟩ u0).setCell ⟨c,1,none⟩ u1).setCell ⟨c,2,none⟩ u2).cell? ⟨b5,o5,none⟩=some v5∧(((W.setCell ⟨c,0,none⟩ u0).setCell ⟨c,1,none⟩ u1).setCell ⟨c,2,none⟩ u2).cell? ⟨b6,o6,none⟩=some v6∧(((W.setCell ⟨c,0,none⟩ u0).setCell ⟨c,1,none⟩ u1).setCell ⟨c,2,none⟩ u2).cell? ⟨b7,o7,none⟩=some v7∧(((W.setCell ⟨c,0,none⟩ u0).setCell ⟨c,1,none⟩ u1).setCell ⟨c,2,none⟩ u2).cell? ⟨b8,o8,none⟩=some v8∧(((W.setCell ⟨c,0,none⟩ u0).setCell ⟨c,1,none⟩ u1).setCell ⟨c,2,none⟩ u2).cell? ⟨b9,o9,none⟩=some v9∧Below w.heap.size w (((W.setCell ⟨c,0,none⟩ u0).setCell ⟨c,1,none⟩ u1).setCell ⟨c,2,none⟩ u2) :=
 ⟨by rw [World.cell?_setCell_far _ _ _ _ (by exact hne0),World.cell?_setCell_far _ _ _ _ (by exact hne0),World.cell?_setCell_far _ _ _ _ (by exact hne0)];exact h.1,by rw [World.cell?_setCell_far _ _ _ _ (by exact hne1),World.cell?_setCell_far _ _ _ _ (by exact hne1),World.cell?_setCell_far _ _ _ _ (by exact hne1)];exact h.2.1,by rw [World.cell?_setCell_far _ _ _ _ (by exact hne2),World.cell?_setCell_far _ _ _ _ (by exact hne2),World.cell?_setCell_far _ _ _ _ (by exact hne2)];exact h.2.2.1,by rw [World.cell?_setCell_far _ _ _ _ (by exact hne3),World.cell?_setCell_far _ _ _ _ (by exact hne3),World.cell?_setCell_far _ _ _ _ (by exact hne3)];exact h.2.2.2.1,by rw [World.cell?_setCell_far _ _ _ _ (by exact hne4),World.cell?_setCell_far _ _ _ _ (by exact hne4),World.cell?_setCell_far _ _ _ _ (by exact hne4)];exact h.2.2.2.2.1,by rw [World.cell?_setCell_far _ _ _ _ (by exact hne5),World.cell?_setCell_far _ _ _ _ (by exact hne5),World.cell?_setCell_far _ _ _ _ (by exact hne5)];exact h.2.2.2.2.2.1,by rw [World.cell?_setCell_far _ _ _ _ (by exact hne6),World.cell?_setCell_far _ _ _ _ (by exact hne6),World.cell?_setCell_far _ _ _ _ (by exact hne6)];exact h.2.2.2.2.2.2.1,by rw [World.cell?_setCell_far _ _ _ _ (by exact hne7),World.cell?_setCell_far _ _ _ _ (by exact hne7),World.cell?_setCell_far _ _ _ _ (by exact hne7)];exact h.2.2.2.2.2.2.2.1,by rw [World.cell?_setCell_far _ _ _ _ (by exact hne8),World.cell?_setCell_far _ _ _ _ (by exact hne8),World.cell?_setCell_far _ _ _ _ (by exact hne8)];exact h.2.2.2.2.2.2.2.2.1,by rw [World.cell?_setCell_far _ _ _ _ (by exact hne9),World.cell?_setCell_far _ _ _ _ (by exact hne9),World.cell?_setCell_far _ _ _ _ (by exact hne9)];exact h.2.2.2.2.2.2.2.2.2.1,(((h.2.2.2.2.2.2.2.2.2.2.setCell hc _).setCell hc _).setCell hc _)⟩
theorem kpT6_2 {w W:World} {b0 o0 b1 o1 b2 o2 b3 o3 b4 o4 b5 o5 c:Nat} {v0 v1 v2 v3 v4 v5 u0 u1:Value} (h:W.cell? ⟨b0,o0,none⟩=some v0∧W.cell? ⟨b1,o1,none⟩=some v1∧W.cell? ⟨b2,o2,none⟩=some v2∧W.cell? ⟨b3,o3,none⟩=some v3∧W.cell? ⟨b4,o4,none⟩=some v4∧W.cell? ⟨b5,o5,none⟩=some v5∧Below w.heap.size w W) (hne0:c≠b0) (hne1:c≠b1) (hne2:c≠b2) (hne3:c≠b3) (hne4:c≠b4) (hne5:c≠b5) (hc:w.heap.size≤c) :
  ((W.setCell ⟨c,0,none⟩ u0).setCell ⟨c,1,none⟩ u1).cell? ⟨b0,o0,none⟩=some v0∧((W.setCell ⟨c,0,none⟩ u0).setCell ⟨c,1,none⟩ u1).cell? ⟨b1,o1,none⟩=some v1∧((W.setCell ⟨c,0,none⟩ u0).setCell ⟨c,1,none⟩ u1).cell? ⟨b2,o2,none⟩=some v2∧((W.setCell ⟨c,0,none⟩ u0).setCell ⟨c,1,none⟩ u1).cell? ⟨b3,o3,none⟩=some v3∧((W.setCell ⟨c,0,none⟩ u0).setCell ⟨c,1,none⟩ u1).cell? ⟨b4,o4,none⟩=some v4∧((W.setCell ⟨c,0,none⟩ u0).setCell ⟨c,1,none⟩ u1).cell? ⟨b5,o5,none⟩=some v5∧Below w.heap.size w ((W.setCell ⟨c,0,none⟩ u0).setCell ⟨c,1,none⟩ u1) :=
 ⟨by rw [World.cell?_setCell_far _ _ _ _ (by exact hne0),World.cell?_setCell_far _ _ _ _ (by exact hne0)];exact h.1,by rw [World.cell?_setCell_far _ _ _ _ (by exact hne1),World.cell?_setCell_far _ _ _ _ (by exact hne1)];exact h.2.1,by rw [World.cell?_setCell_far _ _ _ _ (by exact hne2),World.cell?_setCell_far _ _ _ _ (by exact hne2)];exact h.2.2.1,by rw [World.cell?_setCell_far _ _ _ _ (by exact hne3),World.cell?_setCell_far _ _ _ _ (by exact hne3)];exact h.2.2.2.1,by rw [World.cell?_setCell_far _ _ _ _ (by exact hne4),World.cell?_setCell_far _ _ _ _ (by exact hne4)];exact h.2.2.2.2.1,by rw [World.cell?_setCell_far _ _ _ _ (by exact hne5),World.cell?_setCell_far _ _ _ _ (by exact hne5)];exact h.2.2.2.2.2.1,((h.2.2.2.2.2.2.setCell hc _).setCell hc _)⟩
theorem al2 {X w1:World} {u0 u1:Value} {t:TypeId} (b:Below (X.alloc (.cells #[u0,u1] t)).heap.size (X.alloc (.cells #[u0,u1] t)) w1):w1.cell? ⟨X.heap.size,0,none⟩=some u0∧w1.cell? ⟨X.heap.size,1,none⟩=some u1∧Row w1 X.heap.size :=
 ⟨xQ0 b (by go_simp),xQ0 b (by go_simp),xQ3 b (xQ9 X _ t)⟩
set_option maxHeartbeats 1000000 in
theorem wGcd_is (s:Bool) (ao:Option Addr) (n cap X:Nat) (t:Bool) (ao2:Option Addr) (m cap2 Y G:Nat) (w:World) (hc:n≤cap) (hm:n≤70368744177663) (hS:Seg w ao X n) (hc2:m≤cap2) (hm2:m≤70368744177663) (hS2:Seg w ao2 Y m) (h:Nat.gcd X Y=G) :
  Calls Tryz.prog 98 #[.agg #[.bool s,.slice ao n cap],.agg #[.bool t,.slice ao2 m cap2]] w fun e w'=>∃ ag,e=.returned (.slice ag (ln G) (ln G))∧New w w' ag G (ln G):=by
 have HG:=xQ1 (fun w' k1 k2=>Gcd_is ao ao2 n cap X m cap2 Y G w' hc hm k1 hc2 hm2 k2 h)
 clear h
 go_enter Tryz.func98,Tryz.ntmps98
 go_wp2_with fail
 obtain ⟨W,hW⟩:∃ W,((w.alloc (.cells #[.bool s,.slice ao n cap] 53)).alloc (.cells #[.bool t,.slice ao2 m cap2] 53))=W:=⟨_,rfl⟩
 have q00:W.cell? ⟨w.heap.size,0,none⟩=some (.bool s):=by subst hW;go_simp
 have q01:W.cell? ⟨w.heap.size,1,none⟩=some (.slice ao n cap):=by subst hW;go_simp
 have q10:W.cell? ⟨w.heap.size+1,0,none⟩=some (.bool t):=by subst hW;go_simp
 have q11:W.cell? ⟨w.heap.size+1,1,none⟩=some (.slice ao2 m cap2):=by subst hW;go_simp
 have hB:Below w.heap.size w W:=by subst hW;exact (((Below.refl _ _).alloc (by (try simp only [World.size_alloc]);omega) _).alloc (by (try simp only [World.size_alloc]);omega) _)
 have hz:W.heap.size=w.heap.size+1+1:=by subst hW;simp only [World.size_alloc]
 rw [hW]
 clear hW
 have hBW:Below W.heap.size W W:=Below.refl _ _
 refine (HG.out _ (sb hS hB hBW) (sb hS2 hB hBW)).mono ?_
 rintro e w1 ⟨a1,rfl,hn⟩
 have b1:=hn.below
 replace hn:=hn.back hBW
 replace hBW:=hBW.trans (b1.mono hBW.size)
 replace q00:=xQ0 b1 q00
 replace q01:=xQ0 b1 q01
 replace q10:=xQ0 b1 q10
 replace q11:=xQ0 b1 q11
 go_wp2
 go_ret
 exact ⟨a1,rfl,hn.back hB⟩
set_option maxHeartbeats 1000000 in
theorem read_nz (s:Bool) (ao:Option Addr) (n cap:Nat) (ao2:Option Addr) (m cap2 Y:Nat) (w:World) (hc2:m≤cap2) (hm2:m≤70368744177664) (hS2:Seg w ao2 Y m) (hY:Y≠0) :
  Calls Tryz.prog 76 #[.agg #[.bool s,.slice ao n cap,.slice ao2 m cap2]] w fun e w'=>e=.returned (.agg #[.bool s,.slice ao n cap,.bool false,.slice ao2 m cap2])∧Below w.heap.size w w':=by
 obtain ⟨Z,hZ⟩:∃ Z,sg false Y=Z:=⟨_,rfl⟩
 have hx:(sgn Z == 0)=false:=by rw [←hZ,sgn_sg hY];rfl
 have HZ:=xQ1 hZ
 clear hZ
 go_enter Tryz.func76,Tryz.ntmps76
 go_wp2_with fail
 obtain ⟨W,hW⟩:∃ W,(((w.alloc (.cells #[.bool s,.slice ao n cap,.slice ao2 m cap2] 55)).alloc (.cells #[.bool false,.slice none 0 0,.bool false,.slice none 0 0] 111)).alloc (.cells #[.bool false,.slice ao2 m cap2] 53))=W:=⟨_,rfl⟩
 have q00:W.cell? ⟨w.heap.size,0,none⟩=some (.bool s):=by subst hW;go_simp
 have q01:W.cell? ⟨w.heap.size,1,none⟩=some (.slice ao n cap):=by subst hW;go_simp
 have q02:W.cell? ⟨w.heap.size,2,none⟩=some (.slice ao2 m cap2):=by subst hW;go_simp
 have r00:W.cell? ⟨w.heap.size+1,0,none⟩=some (.bool false):=by subst hW;go_simp
 have r01:W.cell? ⟨w.heap.size+1,1,none⟩=some (.slice none 0 0):=by subst hW;go_simp
 have r02:W.cell? ⟨w.heap.size+1,2,none⟩=some (.bool false):=by subst hW;go_simp
 have r03:W.cell? ⟨w.heap.size+1,3,none⟩=some (.slice none 0 0):=by subst hW;go_simp
 have r10:W.cell? ⟨w.heap.size+1+1,0,none⟩=some (.bool false):=by subst hW;go_simp
 have r11:W.cell? ⟨w.heap.size+1+1,1,none⟩=some (.slice ao2 m cap2):=by subst hW;go_simp
 have hB:Below w.heap.size w W:=by subst hW;exact ((((Below.refl _ _).alloc (by (try simp only [World.size_alloc]);omega) _).alloc (by (try simp only [World.size_alloc]);omega) _).alloc (by (try simp only [World.size_alloc]);omega) _)
 have hR0:Row W (w.heap.size+1):=by
  have:=xQ9 ((w.alloc (.cells #[.bool s,.slice ao n cap,.slice ao2 m cap2] 55))) #[.bool false,.slice none 0 0,.bool false,.slice none 0 0] 111
  try simp only [World.size_alloc] at this
  subst hW;exact (this.alloc _)
 have hR1:Row W (w.heap.size+1+1):=by
  have:=xQ9 (((w.alloc (.cells #[.bool s,.slice ao n cap,.slice ao2 m cap2] 55)).alloc (.cells #[.bool false,.slice none 0 0,.bool false,.slice none 0 0] 111))) #[.bool false,.slice ao2 m cap2] 53
  try simp only [World.size_alloc] at this
  subst hW;exact this
 have hz:W.heap.size=w.heap.size+1+1+1:=by subst hW;simp only [World.size_alloc]
 rw [hW]
 clear hW
 have hBW:Below W.heap.size W W:=Below.refl _ _
 refine (wSign_is false ao2 m cap2 Y Z _ hc2 hm2 (sb hS2 hB hBW) HZ.out).mono ?_
 rintro e w1 ⟨rfl,b1⟩
 replace hBW:=hBW.trans (b1.mono hBW.size)
 replace q00:=xQ0 b1 q00
 replace q01:=xQ0 b1 q01
 replace q02:=xQ0 b1 q02
 replace r00:=xQ0 b1 r00
 replace r01:=xQ0 b1 r01
 replace r02:=xQ0 b1 r02
 replace r03:=xQ0 b1 r03
 replace r10:=xQ0 b1 r10
 replace r11:=xQ0 b1 r11
 replace hR0:=xQ3 b1 hR0
 replace hR1:=xQ3 b1 hR1
 have fz0:=fun o=>hR0.frozen o
 have fz1:=fun o=>hR1.frozen o
 go_wp2
 all_goals refine bodyPost_ret (v:=.agg #[.bool s,.slice ao n cap,.bool false,.slice ao2 m cap2]) (by rw [xQ5 rfl];go_simp) rfl ?_
 all_goals exact ⟨rfl,((bset (bset (bset (bset (hB.trans (hBW.mono hB.size)) (by omega)) (by omega)) (by omega)) (by omega)))⟩
set_option maxHeartbeats 1000000 in
set_option maxRecDepth 30000 in
theorem read_z (s:Bool) (ao:Option Addr) (n cap:Nat) (ao2:Option Addr) (m cap2:Nat) (w:World) (hc2:m≤cap2) (hm2:m≤70368744177664) (hS2:Seg w ao2 0 m) :
  Calls Tryz.prog 76 #[.agg #[.bool s,.slice ao n cap,.slice ao2 m cap2]] w fun e w'=>∃ p q,e=.returned (.agg #[.bool (ng 0),.slice p (ln (am 0)) (ln (am 0)),.bool (ng 1),.slice q (ln (am 1)) (ln (am 1))])∧New w w' p (am 0) (ln (am 0))∧New w w' q (am 1) (ln (am 1)):=by
 obtain ⟨Z0,hZ0⟩:∃ Z0:Int,0=Z0:=⟨_,rfl⟩
 obtain ⟨Z1,hZ1⟩:∃ Z1:Int,1=Z1:=⟨_,rfl⟩
 have H0:∀ w',Calls Tryz.prog 102 #[.int .i64 0] w' fun e w''=>∃ ao',e=.returned (.agg #[.bool (ng Z0),.slice ao' (ln (am Z0)) (ln (am Z0))])∧New w' w'' ao' (am Z0) (ln (am Z0)):=fun w'=>hZ0 ▸ wOf_is 0 w' (by omega) (by omega)
 have H1:∀ w',Calls Tryz.prog 102 #[.int .i64 1] w' fun e w''=>∃ ao',e=.returned (.agg #[.bool (ng Z1),.slice ao' (ln (am Z1)) (ln (am Z1))])∧New w' w'' ao' (am Z1) (ln (am Z1)):=fun w'=>hZ1 ▸ wOf_is 1 w' (by omega) (by omega)
 rw [show am 0=am Z0 from congrArg am hZ0,show am 1=am Z1 from congrArg am hZ1,show ng 0=ng Z0 from congrArg ng hZ0,show ng 1=ng Z1 from congrArg ng hZ1]
 have G0:=xQ1 H0
 have G1:=xQ1 H1
 clear H0 H1 hZ0 hZ1
 go_enter Tryz.func76,Tryz.ntmps76
 go_wp2_with fail
 obtain ⟨W,hW⟩:∃ W,(((w.alloc (.cells #[.bool s,.slice ao n cap,.slice ao2 m cap2] 55)).alloc (.cells #[.bool false,.slice none 0 0,.bool false,.slice none 0 0] 111)).alloc (.cells #[.bool false,.slice ao2 m cap2] 53))=W:=⟨_,rfl⟩
 have q00:W.cell? ⟨w.heap.size,0,none⟩=some (.bool s):=by subst hW;go_simp
 have q01:W.cell? ⟨w.heap.size,1,none⟩=some (.slice ao n cap):=by subst hW;go_simp
 have q02:W.cell? ⟨w.heap.size,2,none⟩=some (.slice ao2 m cap2):=by subst hW;go_simp
 have r00:W.cell? ⟨w.heap.size+1,0,none⟩=some (.bool false):=by subst hW;go_simp
 have r01:W.cell? ⟨w.heap.size+1,1,none⟩=some (.slice none 0 0):=by subst hW;go_simp
 have r02:W.cell? ⟨w.heap.size+1,2,none⟩=some (.bool false):=by subst hW;go_simp
 have r03:W.cell? ⟨w.heap.size+1,3,none⟩=some (.slice none 0 0):=by subst hW;go_simp
 have r10:W.cell? ⟨w.heap.size+1+1,0,none⟩=some (.bool false):=by subst hW;go_simp
 have r11:W.cell? ⟨w.heap.size+1+1,1,none⟩=some (.slice ao2 m cap2):=by subst hW;go_simp
 have hB:Below w.heap.size w W:=by subst hW;exact ((((Below.refl _ _).alloc (by (try simp only [World.size_alloc]);omega) _).alloc (by (try simp only [World.size_alloc]);omega) _).alloc (by (try simp only [World.size_alloc]);omega) _)
 have hR0:Row W (w.heap.size+1):=by
  have:=xQ9 ((w.alloc (.cells #[.bool s,.slice ao n cap,.slice ao2 m cap2] 55))) #[.bool false,.slice none 0 0,.bool false,.slice none 0 0] 111
  try simp only [World.size_alloc] at this
  subst hW;exact (this.alloc _)
 have hR1:Row W (w.heap.size+1+1):=by
  have:=xQ9 (((w.alloc (.cells #[.bool s,.slice ao n cap,.slice ao2 m cap2] 55)).alloc (.cells #[.bool false,.slice none 0 0,.bool false,.slice none 0 0] 111))) #[.bool false,.slice ao2 m cap2] 53
  try simp only [World.size_alloc] at this
  subst hW;exact this
 have hz:W.heap.size=w.heap.size+1+1+1:=by subst hW;simp only [World.size_alloc]
 rw [hW]
 clear hW
 have hBW:Below W.heap.size W W:=Below.refl _ _
 refine (wSign_is false ao2 m cap2 0 0 _ hc2 hm2 (sb hS2 hB hBW) rfl).mono ?_
 rintro e w1 ⟨rfl,b1⟩
 replace hBW:=hBW.trans (b1.mono hBW.size)
 replace q00:=xQ0 b1 q00
 replace q01:=xQ0 b1 q01
 replace q02:=xQ0 b1 q02
 replace r00:=xQ0 b1 r00
 replace r01:=xQ0 b1 r01
 replace r02:=xQ0 b1 r02
 replace r03:=xQ0 b1 r03
 replace r10:=xQ0 b1 r10
 replace r11:=xQ0 b1 r11
 replace hR0:=xQ3 b1 hR0
 replace hR1:=xQ3 b1 hR1
 rw [sgn_zero]
 go_wp2_with fail
 refine (G0.out _).mono ?_
 rintro e w2 ⟨a2,rfl,hn⟩
 have b2:=hn.below
 replace hn:=hn.back hBW
 replace hBW:=hBW.trans (b2.mono hBW.size)
 replace q00:=xQ0 b2 q00
 replace q01:=xQ0 b2 q01
 replace q02:=xQ0 b2 q02
 replace r00:=xQ0 b2 r00
 replace r01:=xQ0 b2 r01
 replace r02:=xQ0 b2 r02
 replace r03:=xQ0 b2 r03
 replace r10:=xQ0 b2 r10
 replace r11:=xQ0 b2 r11
 replace hR0:=xQ3 b2 hR0
 replace hR1:=xQ3 b2 hR1
 go_wp2_with fail
 refine (G1.out _).mono ?_
 rintro e w3 ⟨a3,rfl,hk⟩
 have b3:=hk.below
 replace hk:=hk.back hBW
 replace hBW:=hBW.trans (b3.mono hBW.size)
 replace q00:=xQ0 b3 q00
 replace q01:=xQ0 b3 q01
 replace q02:=xQ0 b3 q02
 replace r00:=xQ0 b3 r00
 replace r01:=xQ0 b3 r01
 replace r02:=xQ0 b3 r02
 replace r03:=xQ0 b3 r03
 replace r10:=xQ0 b3 r10
 replace r11:=xQ0 b3 r11
 replace hR0:=xQ3 b3 hR0
 replace hR1:=xQ3 b3 hR1
 replace hn:=hn.later b3
 have fz0:=fun o=>hR0.frozen o
 have fz1:=fun o=>hR1.frozen o
 go_wp2
 all_goals refine bodyPost_ret (v:=.agg #[.bool (ng Z0),.slice a2 (ln (am Z0)) (ln (am Z0)),.bool (ng Z1),.slice a3 (ln (am Z1)) (ln (am Z1))]) (by rw [xQ5 rfl];go_simp) rfl ?_
 all_goals exact ⟨a2,a3,rfl,hn.mid hB ((((((Mid.refl _ _ _).set _ _ (by omega) (by omega) _).set _ _ (by omega) (by omega) _).set _ _ (by omega) (by omega) _).set _ _ (by omega) (by omega) _)),hk.mid hB ((((((Mid.refl _ _ _).set _ _ (by omega) (by omega) _).set _ _ (by omega) (by omega) _).set _ _ (by omega) (by omega) _).set _ _ (by omega) (by omega) _))⟩
end Go.Proofs.YtgfmaejhdbmkoaaGreat
