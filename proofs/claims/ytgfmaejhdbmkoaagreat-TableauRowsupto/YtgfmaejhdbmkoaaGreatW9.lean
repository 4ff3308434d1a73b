import Derived.Test.YtgfmaejhdbmkoaaGreatW6
set_option linter.unusedSimpArgs false
namespace Go.Proofs.YtgfmaejhdbmkoaaGreat
open Go.RowKit
set_option linter.unusedVariables false
theorem BB_two' (k:Nat):BB ^ k=2 ^ (32*k):=by rw [Nat.pow_mul];rfl
theorem two_le {s:Nat} (h:s≤31):2 ^ s≤2147483648:=Nat.pow_le_pow_right (show 0 < 2 by omega) (show s≤31 by omega)
theorem cast_two (s:Nat):((2 ^ s:Nat):Int)=2 ^ s:=by simp
theorem mcy_lt {a:Nat} (ha:0 < a) (Y k:Nat):mcy 0 Y a k < a:=by
 unfold mcy
 rw [Nat.zero_mod,Nat.zero_add]
 exact (Nat.div_lt_iff_lt_mul (BBp k)).2 (Nat.mul_lt_mul_of_pos_left (Nat.mod_lt _ (BBp k)) ha)
theorem up_val {d c s:Nat} (hd:d < 4294967296) (hs:s≤31) (hc:c < 2 ^ s) :
  bits BinOp.or IntKind.u64 (IntKind.u64.wrap ((d:Int)*2 ^ s)) (c:Int)=((d*2 ^ s+c:Nat):Int):=by
 have h1:=two_le hs
 have h2:d*2 ^ s≤4294967295*2147483648:=Nat.mul_le_mul (by omega) h1
 have e:IntKind.u64.wrap ((d:Int)*2 ^ s)=((d*2 ^ s:Nat):Int):=by
  rw [IntKind.wrap_u64,←cast_two,←Int.natCast_mul]
  omega
 rw [e,u64_or_nat _ _ (by omega) (by omega),nat_join s _ _ (Nat.mul_mod_left _ _) hc]
set_option maxHeartbeats 1000000 in
theorem shiftUp_any (b off n cap C:Nat) (ao:Option Addr) (cap2 X s:Nat) (w:World) (hm:n≤140737488355328) (hs:s≤31) (hrow:Row w b) (hS:Seg w (some ⟨b,off,none⟩) C n) (hS2:Seg w ao X n) (hne:∀ o,ao≠some ⟨b,o,none⟩) :
  Calls Tryz.prog 150 #[.slice (some ⟨b,off,none⟩) n cap,.slice ao n cap2,.int .i64 s] w fun e w'=>e=.returned (.int .u32 ((2 ^ s*X) / BB ^ n:Nat))∧Wr b off (off+n) w w'∧Seg w' (some ⟨b,off,none⟩) ((2 ^ s*X) % BB ^ n) n:=by
 have hp:0 < 2 ^ s:=Nat.two_pow_pos s
 have h2s:=two_le hs
 go_enter Tryz.func150,Tryz.ntmps150
 go_wp2
 go_loopw [7,12] (fun c i wr=>∃ k:Nat,k≤n∧i=.int .i64 k∧c=.int .u64 (mcy 0 X (2 ^ s) k:Nat)∧Wr b off (off+n) w wr∧Seg wr (some ⟨b,off,none⟩) (mix (2 ^ s*X) C k) n) (fun _ i _=>n - (intOf i).toNat)
 case atStart=>exact ⟨0,Nat.zero_le _,rfl,by rw [mcy_zero];rfl,Wr.refl _ _ _ _,by rw [mix_zero];exact hS⟩
 case round =>
  obtain ⟨k,hk,rfl,rfl,hwr,hseg⟩:=hrel
  have hcy:=mcy_lt hp X k
  by_cases hlt:k < n
  ·have hcx:=hseg.rest
   have hfz:=fun o=>(hwr.row hrow).frozen o
   have hyr:=hS2.wr hwr hne
   obtain ⟨b2,off2,rfl,hb2,hcell2⟩:=hyr.2 (by omega)
   have h2:=xZ2 X k
   have E:Hid (bits BinOp.or IntKind.u64 (IntKind.u64.wrap (((dg X k:Nat):Int)*2 ^ s)) ((mcy 0 X (2 ^ s) k:Nat):Int)=((dg X k*2 ^ s+mcy 0 X (2 ^ s) k:Nat):Int)):=up_val h2 hs hcy
   have E1:Hid ((dg X k*2 ^ s+mcy 0 X (2 ^ s) k) % 4294967296=dg (2 ^ s*X) k):=by
    have:=mul_dg 0 X (2 ^ s) k;rwa [dg_zero,Nat.add_zero,Nat.zero_add] at this
   have E2:Hid ((dg X k*2 ^ s+mcy 0 X (2 ^ s) k) / 4294967296=mcy 0 X (2 ^ s) (k+1)):=by
    have:=mul_cy 0 X (2 ^ s) k;rwa [dg_zero,Nat.add_zero] at this
   clear hcy hp h2s
   go_wp2
   go_roundw
   case rel =>
    have e:=E.out
    have e1:=E1.out
    have e2:=E2.out
    rw [e]
    refine ⟨k+1,by omega,by go_num,?_,?_,?_⟩
    ·rw [←e2];rfl
    ·exact hwr.setCell (off+k) (by omega) (by omega) _
    ·exact hseg.set (by omega) hS.1 (by rw [←e1];rfl)
   case measure=>simp [intOf];omega
  ·have hkm:k=n:=by omega
   subst hkm
   go_wp2
   go_ret
   have e:=mcy_end (a:=2 ^ s) (BBp k) hS2.1
   rw [Nat.zero_add] at e
   refine ⟨xJ7 ?_,hwr,hseg.congr (Nat.mod_lt _ (BBp k)) fun i hi=>?_⟩
   ·rw [e] at hcy;rw [e]
   ·rw [dg_mod _ _ _ hi,dg_mix_lo _ _ hi]
theorem Seg.setDown {w:World} {b off C Z k n:Nat} (h:Seg w (some ⟨b,off,none⟩) (mix C Z (k+1)) n) (hk:k < n) (hZ:Z < BB ^ n) {v:Int} (hv:v=(dg Z k:Nat)) :
  Seg (w.setCell ⟨b,off+k,none⟩ (.int .u32 v)) (some ⟨b,off,none⟩) (mix C Z k) n:=by
 refine Seg.mk' (mix_lt hZ (by omega)) (by have:=h.lt (by omega);simpa using this) fun i hi=>?_
 by_cases e:i=k
 ·subst e
  rw [World.cell?_setCell_same (u:=.int .u32 (dg (mix C Z (i+1)) i:Nat)) _ _ _ (h.cells i hi),hv,dg_mix_hi _ _ (by omega)]
 ·rw [World.cell?_setCell_other _ _ _ _ (fun e'=>by simp only [Addr.mk.injEq,true_and,and_true] at e';omega),h.cells i hi]
  by_cases e2:i < k
  ·rw [dg_mix_lo _ _ (by omega),dg_mix_lo _ _ e2]
  ·rw [dg_mix_hi _ _ (by omega),dg_mix_hi _ _ (by omega)]
def dcy (X s k:Nat):Nat:=X / BB ^ k % 2 ^ s
theorem dcy_lt (X s k:Nat):dcy X s k < 2 ^ s:=Nat.mod_lt _ (Nat.two_pow_pos s)
theorem down_t (X s k:Nat):dcy X s (k+1)*4294967296+dg X k=X / BB ^ k % (2 ^ s*BB):=by
 have e:=xJ5 X k
 have hd:=xZ2 X k
 unfold dcy
 rw [←BB_eq] at hd ⊢
 rw [e,Nat.mul_comm (2 ^ s) BB,Nat.mod_mul,Nat.mul_comm (X / BB ^ (k+1)) BB,Nat.mul_add_mod,Nat.mod_eq_of_lt hd,Nat.mul_add_div BB_pos,Nat.div_eq_of_lt hd,Nat.add_zero]
 ac_rfl
theorem down_dg (X s k:Nat):(dcy X s (k+1)*4294967296+dg X k) / 2 ^ s % 4294967296=dg (X / 2 ^ s) k:=by
 rw [down_t,Nat.mod_mul_right_div_self,←BB_eq,Nat.mod_mod]
 unfold dg
 rw [Nat.div_div_eq_div_mul,Nat.div_div_eq_div_mul,Nat.mul_comm]
theorem down_cy (X s k:Nat):(dcy X s (k+1)*4294967296+dg X k) % 2 ^ s=dcy X s k:=by
 rw [down_t,Nat.mod_mul_right_mod];rfl
theorem down_or {c d s:Nat} (hd:d < 4294967296) (hs:s≤31) (hc:c < 2 ^ s) :
  bits BinOp.or IntKind.u64 (IntKind.u64.wrap ((c:Int)*4294967296)) (d:Int)=((c*4294967296+d:Nat):Int):=by
 have h1:=two_le hs
 have e:IntKind.u64.wrap ((c:Int)*4294967296)=((c*4294967296:Nat):Int):=by
  rw [IntKind.wrap_u64];omega
 rw [e,u64_or_nat _ _ (by omega) (by omega),nat_join 32 _ _ (by omega) (by omega)]
theorem down_and {t s:Nat} (ht:t < 18446744073709551616) (hs:s≤31) :
  bits BinOp.and IntKind.u64 (t:Int) (IntKind.u64.wrap (IntKind.u64.wrap (2 ^ s) - 1))=((t % 2 ^ s:Nat):Int):=by
 have h1:=two_le hs
 have hp:=Nat.two_pow_pos s
 have e:IntKind.u64.wrap (IntKind.u64.wrap (2 ^ s) - 1)=((2 ^ s - 1:Nat):Int):=by
  rw [IntKind.wrap_u64,IntKind.wrap_u64,←cast_two];omega
 rw [e,u64_and_nat _ _ ht (by omega),Nat.and_two_pow_sub_one_eq_mod]
set_option maxHeartbeats 1000000 in
theorem shiftDown_any (b off n cap C:Nat) (ao:Option Addr) (cap2 X s:Nat) (w:World) (hm:n≤140737488355328) (hs:s≤31) (hrow:Row w b) (hS:Seg w (some ⟨b,off,none⟩) C n) (hS2:Seg w ao X n) (hne:∀ o,ao≠some ⟨b,o,none⟩) :
  Calls Tryz.prog 152 #[.slice (some ⟨b,off,none⟩) n cap,.slice ao n cap2,.int .i64 s] w fun e w'=>e=.returned (.tuple #[])∧Wr b off (off+n) w w'∧Seg w' (some ⟨b,off,none⟩) (X / 2 ^ s) n:=by
 have hZ:X / 2 ^ s < BB ^ n:=Nat.lt_of_le_of_lt (Nat.div_le_self _ _) hS2.1
 have h2s:=two_le hs
 go_enter Tryz.func152,Tryz.ntmps152
 go_wp2
 go_loopw [6,7] (fun c i wr=>∃ k:Nat,k≤n∧i=.int .i64 ((k:Int) - 1)∧c=.int .u64 (dcy X s k:Nat)∧Wr b off (off+n) w wr∧Seg wr (some ⟨b,off,none⟩) (mix C (X / 2 ^ s) k) n) (fun _ i _=>(intOf i+1).toNat)
 case atStart=>exact ⟨n,Nat.le_refl _,rfl,by unfold dcy;rw [div_big hS2.1];simp,Wr.refl _ _ _ _,by rw [mix_full hZ hS.1];exact hS⟩
 case round =>
  obtain ⟨k,hk,rfl,rfl,hwr,hseg⟩:=hrel
  by_cases hlt:0 < k
  ·obtain ⟨j,rfl⟩:∃ j,k=j+1:=⟨k - 1,by omega⟩
   have hcast:((j+1:Nat):Int) - 1=(j:Nat):=by omega
   rw [hcast]
   have hcy:=dcy_lt X s (j+1)
   have hcx:=hseg.cells
   have hfz:=fun o=>(hwr.row hrow).frozen o
   have hyr:=hS2.wr hwr hne
   obtain ⟨b2,off2,rfl,hb2,hcell2⟩:=hyr.2 (by omega)
   have h2:=xZ2 X j
   obtain ⟨t,ht⟩:∃ t,t=dcy X s (j+1)*4294967296+dg X j:=⟨_,rfl⟩
   have htl:t < 18446744073709551616:=by omega
   have e0:bits BinOp.or IntKind.u64 (IntKind.u64.wrap (((dcy X s (j+1):Nat):Int)*4294967296)) ((dg X j:Nat):Int)=(t:Nat):=by rw [ht];exact down_or h2 hs hcy
   have E1:Hid (t / 2 ^ s % 4294967296=dg (X / 2 ^ s) j):=by show _=_;rw [ht];exact down_dg X s j
   have E2:Hid (bits BinOp.and IntKind.u64 (t:Int) (IntKind.u64.wrap (IntKind.u64.wrap (2 ^ s) - 1))=((dcy X s j:Nat):Int)):=by show _=_;rw [down_and htl hs,ht,down_cy]
   clear hcy h2s ht
   go_wp2
   go_roundw
   case rel =>
    have e1:=E1.out
    refine ⟨j,by omega,by go_num,?_,?_,?_⟩
    ·rw [E2.out]
    ·exact hwr.setCell (off+j) (by omega) (by omega) _
    ·exact hseg.setDown (by omega) hZ (by rw [←e1];simp)
   case measure=>simp [intOf]
  ·have hk0:k=0:=by omega
   subst hk0
   go_wp2
   go_end0
   rw [mix_zero] at hseg
   exact ⟨rfl,hwr,hseg⟩
theorem put_two {T q n:Nat} (hT:T < BB ^ (n+1)):put (put 0 q n (T % BB ^ n)) (q+n) 1 (T / BB ^ n)=T*BB ^ q:=by
 have hD:T / BB ^ n < BB ^ 1:=by
  rw [Nat.pow_one];exact (Nat.div_lt_iff_lt_mul (BBp n)).2 (by rw [Nat.mul_comm,←xQ7];exact hT)
 have hM:T % BB ^ n < BB ^ n:=Nat.mod_lt _ (BBp n)
 have hR:T*BB ^ q < BB ^ (q+(n+1)):=by
  have:=put_low_lt (C:=0) (i:=q) hT;rwa [Nat.zero_mod,Nat.add_zero] at this
 have hL:put (put 0 q n (T % BB ^ n)) (q+n) 1 (T / BB ^ n) < BB ^ (q+(n+1)):=put_lt (put_lt (BBp _) hM (by omega)) hD (by omega)
 refine dg_ext hL hR fun j hj=>?_
 have eT:∀ j,q≤j→dg (T*BB ^ q) j=dg T (j - q):=fun j h=>by
  have:=dg_hi T 0 j q h (BBp q);rwa [Nat.add_zero] at this
 by_cases h1:j < q
 ·have:=dg_add_mul T 0 j q h1
  rw [Nat.add_zero] at this
  rw [dg_put_lo (by omega),dg_put_lo h1,this]
 ·rw [eT j (by omega)]
  by_cases h2:j < q+n
  ·rw [dg_put_lo h2,dg_put_mid (by omega) h2,dg_mod _ _ _ (by omega)]
  ·have hji:j=q+n:=by omega
   subst hji
   rw [dg_put_mid (by omega) (by omega),Nat.sub_self,Nat.add_sub_cancel_left,dg0,←BB_eq]
   rfl
end Go.Proofs.YtgfmaejhdbmkoaaGreat
