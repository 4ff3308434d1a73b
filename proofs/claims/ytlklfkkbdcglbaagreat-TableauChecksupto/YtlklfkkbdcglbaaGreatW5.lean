import Derived.Test.YtlklfkkbdcglbaaGreatW4
import Derived.Lib.BitFns
import Derived.Lib.Strings
import Derived.Lib.Slices
import Derived.Lib.Small
import Derived.Lib.Walk
set_option linter.unusedSimpArgs false
namespace Go.Proofs.YtlklfkkbdcglbaaGreat
open Go.RowKit
set_option linter.unusedVariables false
def bl (X:Nat):Nat:=if h:X=0 then 0 else bl (X / 2)+1
termination_by X
decreasing_by omega
theorem bl_zero:bl 0=0:=by rw [bl];simp
theorem bl_pos {X:Nat} (h:X≠0):bl X=bl (X / 2)+1:=by rw [bl];simp [h]
theorem bl_lt (X:Nat):X < 2 ^ bl X:=by
 induction X using Nat.strongRecOn with
 | ind X ih =>
  by_cases h:X=0
  ·subst h;simp [bl_zero]
  ·rw [bl_pos h,Nat.pow_succ]
   have:=ih (X / 2) (by omega)
   omega
theorem bl_le {X:Nat} (h:X≠0):2 ^ (bl X - 1)≤X:=by
 induction X using Nat.strongRecOn with
 | ind X ih =>
  rw [bl_pos h,Nat.add_sub_cancel]
  by_cases hd:X / 2=0
  ·rw [hd,bl_zero];simp;omega
  ·have:=ih (X / 2) (by omega) hd
   have hl:bl (X / 2)=bl (X / 2) - 1+1:=by rw [bl_pos hd];omega
   rw [hl,Nat.pow_succ]
   omega
theorem bl_of {X k:Nat} (h1:2 ^ k≤X) (h2:X < 2 ^ (k+1)):bl X=k+1:=by
 have hp:0 < 2 ^ k:=Nat.two_pow_pos k
 have h0:X≠0:=by omega
 have a:=bl_lt X
 have b:=bl_le h0
 have c:k < bl X:=by
  by_cases hc:k < bl X
  ·exact hc
  ·have:=Nat.pow_le_pow_right (show 0 < 2 by omega) (show bl X≤k by omega);omega
 have d:bl X≤k+1:=by
  by_cases hc:bl X≤k+1
  ·exact hc
  ·have:=Nat.pow_le_pow_right (show 0 < 2 by omega) (show k+1≤bl X - 1 by omega);omega
 omega
theorem bl_lib {x:Nat} (h:x < 18446744073709551616):Lib.bitLen x=bl x:=by
 induction x using Nat.strongRecOn with
 | ind x ih =>
  by_cases h0:x=0
  ·subst h0;rw [bl_zero];decide
  ·rw [bl_pos h0,Lib.bitLen_half x h0 h,ih (x / 2) (by omega) (by omega)];omega
theorem tab_size:Lib.len8tab.size=256:=by kernel_rfl
theorem tab_fin:∀ i:Fin 256,(Lib.len8tab.get! i.val).toNat=Lib.bitLen i.val:=by decide +kernel
theorem tab_at (i:Nat) (h:i < Lib.len8tab.size):(Lib.len8tab[i]'h).toNat=Lib.bitLen i:=by
 have h2:i < 256:=by rw [←tab_size];exact h
 rw [←tab_fin ⟨i,h2⟩]
 simp [ByteArray.get!,ByteArray.getElem_eq_getElem_data,getElem!_pos,h]
theorem bitLen8 {i:Nat} (h:i < 256):Lib.bitLen i≤8:=Lib.bitLen_le i 8 (by omega) h
theorem fin8 (k i:Nat) (h:i < Lib.len8tab.size) (x:Nat) (hs:Lib.bitLen x=k+Lib.bitLen i) (hi:i < 256) (hk:k≤24) :
  wrap64 ((k:Int)+wrap64 (((Lib.len8tab[i]'h).toNat:Nat):Int))=((Lib.bitLen x:Nat):Int):=by
 rw [tab_at]
 have:=bitLen8 hi
 unfold wrap64;omega
set_option maxHeartbeats 4000000 in
set_option maxRecDepth 100000 in
theorem Len32_lib (x:Int) (w:World) (h0:0≤x) (h1:x≤4294967295) :
  Calls Tryz.prog 189 #[.int .u32 x] w fun e w'=>e=.returned (.int .i64 (Lib.bitLen x.toNat:Nat))∧w=w':=by
 have hts:=tab_size
 go_enter Tryz.func189,Tryz.ntmps189
 go_wp2
 all_goals (go_ret;refine ⟨ret_int ?_,rfl⟩)
 ·have e:(x / 65536 / 256).toNat=x.toNat / 16777216:=by omega
  refine fin8 24 _ (by rw [tab_size];omega) _ ?_ (by omega) (by omega)
  rw [e];exact Lib.bitLen_shift24 x.toNat (by omega) (by omega)
 ·have e:(x / 65536).toNat=x.toNat / 65536:=by omega
  refine fin8 16 _ (by rw [tab_size];omega) _ ?_ (by omega) (by omega)
  rw [e];exact Lib.bitLen_shift16 x.toNat (by omega) (by omega)
 ·have e:(x / 256).toNat=x.toNat / 256:=by omega
  refine fin8 8 _ (by rw [tab_size];omega) _ ?_ (by omega) (by omega)
  rw [e];exact Lib.bitLen_shift8 x.toNat (by omega) (by omega)
 ·rw [tab_at]
  have:=bitLen8 (show x.toNat < 256 by omega)
  unfold wrap64;omega
theorem Len32_any (x:Nat) (w:World) (h:x < 4294967296) :
  Calls Tryz.prog 189 #[.int .u32 x] w fun e w'=>e=.returned (.int .i64 (bl x:Nat))∧w=w':=by
 have:=Len32_lib x w (by omega) (by omega)
 rwa [Int.toNat_natCast,bl_lib (by omega)] at this
def bt (X i:Nat):Nat:=X / 2 ^ i % 2
def bitB (X:Nat) (i:Int):Bool:=decide (0≤i∧bt X i.toNat=1)
theorem BB_two (k:Nat):BB ^ k=2 ^ (32*k):=by rw [Nat.pow_mul];rfl
theorem bt_dg (X j:Nat):bt X j=dg X (j / 32) / 2 ^ (j % 32) % 2:=by
 have hr:j % 32 < 32:=Nat.mod_lt _ (by omega)
 unfold bt dg
 have e1:X / 2 ^ j=X / BB ^ (j / 32) / 2 ^ (j % 32):=by
  rw [BB_two,Nat.div_div_eq_div_mul,←Nat.pow_add]
  congr 2;omega
 rw [e1]
 generalize X / BB ^ (j / 32)=Y
 generalize j % 32=r at hr
 have e2:BB=2 ^ r*(2 ^ (31 - r)*2):=by rw [←Nat.pow_succ,←Nat.pow_add,BB_eq,show r+(31 - r+1)=32 by omega]
 rw [e2,Nat.mod_mul,Nat.add_comm,Nat.mul_add_div (Nat.two_pow_pos r),Nat.div_eq_of_lt (Nat.mod_lt _ (Nat.two_pow_pos r)),Nat.add_zero,Nat.mod_mul_left_mod]
theorem bt_big {X n j:Nat} (h:X < BB ^ n) (hj:n≤j / 32):bt X j=0:=by
 rw [bt_dg,dg_big (Nat.lt_of_lt_of_le h (pow_mono hj))];simp
theorem bit_val (X j:Nat):(bits BinOp.and IntKind.u32 (((dg X (j / 32):Nat):Int) / 2 ^ (j % 32)) 1 == 1)=bitB X (j:Int):=by
 have hd:=dg_lt X (j / 32)
 have hle:dg X (j / 32) / 2 ^ (j % 32)≤dg X (j / 32):=Nat.div_le_self _ _
 have e:((dg X (j / 32):Nat):Int) / 2 ^ (j % 32)=((dg X (j / 32) / 2 ^ (j % 32):Nat):Int):=by simp
 rw [e,show (1:Int)=((1:Nat):Int) from rfl,u32_and_nat _ _ (by omega) (by omega),nat_mask1,←bt_dg]
 unfold bitB
 rw [Int.toNat_natCast]
 by_cases h:bt X j=1
 ·rw [h];simp
 ·simp only [h,and_false,decide_false]
  rw [beq_eq_false_iff_ne];omega
theorem ret_bool {a b:Bool} (h:a=b):Ending.returned (.bool a)=.returned (.bool b):=by rw [h]
set_option maxHeartbeats 1000000 in
theorem rBit_any (ao:Option Addr) (n cap X:Nat) (i:Int) (w:World) (hm:n≤70368744177664) (h1:-9223372036854775808≤i) (h2:i≤9223372036854775807) (hS:Seg w ao X n) :
  Calls Tryz.prog 146 #[.slice ao n cap,.int .i64 i] w fun e w'=>e=.returned (.bool (bitB X i))∧w=w':=by
 by_cases h0:i < 0
 ·have e:bitB X i=false:=by unfold bitB;rw [decide_eq_false];omega
  rw [e]
  go_enter Tryz.func146,Tryz.ntmps146
  go_wp2
  go_ret
  exact ⟨rfl,rfl⟩
 ·obtain ⟨j,rfl⟩:=Int.eq_ofNat_of_zero_le (show 0≤i by omega)
  by_cases hj:j / 32 < n
  ·obtain ⟨b,off,rfl,hb,hcell⟩:=hS.2 (by omega)
   have hd:=dg_lt X (j / 32)
   have hcj:=hcell (j / 32) hj
   go_enter Tryz.func146,Tryz.ntmps146
   go_wp2
   go_ret
   exact ⟨ret_bool (bit_val X j),rfl⟩
  ·have e:bitB X (j:Int)=false:=by unfold bitB;rw [decide_eq_false];rw [Int.toNat_natCast,bt_big hS.1 (by omega)];omega
   rw [e]
   go_enter Tryz.func146,Tryz.ntmps146
   go_wp2
   go_ret
   exact ⟨rfl,rfl⟩
theorem bl_top {X:Nat} (h:X≠0):(ln X - 1)*32+bl (dg X (ln X - 1))=bl X:=by
 have h1:=ln_le h
 have h2:=ln_lt X
 have h3:ln X≠0:=fun e=>h (ln_eq_zero.1 e)
 obtain ⟨k,hk⟩:∃ k,ln X=k+1:=⟨ln X - 1,by omega⟩
 rw [hk] at h1 h2 ⊢
 rw [Nat.add_sub_cancel] at h1 ⊢
 have hd:dg X k=X / BB ^ k:=by
  unfold dg
  rw [Nat.mod_eq_of_lt]
  rw [pow_succ'] at h2
  exact (Nat.div_lt_iff_lt_mul (BBp k)).2 (by rw [Nat.mul_comm];exact h2)
 have hd0:dg X k≠0:=by rw [hd];have:=Nat.div_pos h1 (BBp k);omega
 have a:=bl_lt (dg X k)
 have b:=bl_le hd0
 obtain ⟨m,hm⟩:∃ m,bl (dg X k)=m+1:=⟨bl (dg X k) - 1,by have:=bl_pos hd0;omega⟩
 rw [hm] at a b ⊢
 rw [Nat.add_sub_cancel] at b
 rw [hd] at a b
 have a':=(Nat.div_lt_iff_lt_mul (BBp k)).1 a
 have b':=(Nat.le_div_iff_mul_le (BBp k)).1 b
 rw [BB_two,←Nat.pow_add] at a' b'
 rw [bl_of (X:=X) (k:=k*32+m) (by rw [show k*32+m=m+32*k by omega];exact b') (by rw [show k*32+m+1=m+1+32*k by omega];exact a')]
 omega
theorem bl_le_len {X n:Nat} (h:X < BB ^ n):bl X≤32*n:=by
 by_cases h0:X=0
 ·subst h0;rw [bl_zero];omega
 ·have:=bl_le h0
  rw [BB_two] at h
  by_cases hc:bl X≤32*n
  ·exact hc
  ·have:=Nat.pow_le_pow_right (show 0 < 2 by omega) (show 32*n≤bl X - 1 by omega);omega
set_option maxHeartbeats 1000000 in
theorem Bits_any (ao:Option Addr) (n cap X:Nat) (w:World) (hc:n≤cap) (hm:n≤70368744177664) (hS:Seg w ao X n) :
  Calls Tryz.prog 196 #[.slice ao n cap] w fun e w'=>e=.returned (.int .i64 (bl X:Nat))∧w=w':=by
 have hl:=ln_le_of_lt hS.1
 by_cases h0:X=0
 ·subst h0
  have hb:(((ln 0:Nat):Int) == 0)=true:=by rw [ln_zero];rfl
  rw [bl_zero]
  go_enter Tryz.func196,Tryz.ntmps196
  go_wp2_with fail
  refine (trim_any _ _ _ 0 _ hc hm hS).mono ?_
  rintro e w' ⟨a1,rfl,rfl,ht⟩
  go_wp2
  go_ret
  exact ⟨rfl,rfl⟩
 ·have h1:0 < ln X:=by have:=mt ln_eq_zero.1 h0;omega
  have hb:(((ln X:Nat):Int) == 0)=false:=by rw [beq_eq_false_iff_ne];omega
  have hd:=dg_lt X (ln X - 1)
  have hbl:bl (dg X (ln X - 1))≤32:=by have:=bl_le_len (n:=1) (X:=dg X (ln X - 1)) (by rw [Nat.pow_one,BB_eq];exact hd);omega
  have HT:Hid ((ln X - 1)*32+bl (dg X (ln X - 1))=bl X):=bl_top h0
  clear h0
  go_enter Tryz.func196,Tryz.ntmps196
  go_wp2_with fail
  refine (trim_any _ _ _ X _ hc hm hS).mono ?_
  rintro e w' ⟨a1,rfl,rfl,ht⟩
  obtain ⟨b,off,rfl,hb2,hcell⟩:=(hS.trm ht).2 h1
  go_wp2_with fail
  refine (Len32_any _ _ hd).mono ?_
  rintro e w' ⟨rfl,rfl⟩
  go_wp2
  go_ret
  refine ⟨ret_int ?_,rfl⟩
  have:=HT.out
  omega
end Go.Proofs.YtlklfkkbdcglbaaGreat
