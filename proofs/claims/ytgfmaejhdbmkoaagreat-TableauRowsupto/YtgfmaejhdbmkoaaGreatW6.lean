import Derived.Test.YtgfmaejhdbmkoaaGreatW2
import Derived.Test.YtgfmaejhdbmkoaaGreatNumM
import Derived.Deep.RegionWith
set_option linter.unusedSimpArgs false
namespace Go.Proofs.YtgfmaejhdbmkoaaGreat
open Go.RowKit
set_option linter.unusedVariables false
theorem Seg.splice {w w':World} {b off C D N i n:Nat} (h:Seg w (some ⟨b,off,none⟩) C N) (k:Wr b (off+i) (off+i+n) w w') (hd:Seg w' (some ⟨b,off+i,none⟩) D n) (hin:i+n≤N) (hN:0 < N) :
  Seg w' (some ⟨b,off,none⟩) (put C i n D) N:=by
 refine Seg.mk' (put_lt h.1 hd.1 hin) (Nat.lt_of_lt_of_le (h.lt hN) k.size) fun j hj=>?_
 by_cases h1:j < i
 ·rw [k.cell (off+j) (by omega),h.cells j hj,dg_put_lo h1]
 ·by_cases h2:j < i+n
  ·have:=hd.cells (j - i) (by omega)
   rw [show off+i+(j - i)=off+j by omega] at this
   rw [this,dg_put_mid (by omega) h2]
  ·rw [k.cell (off+j) (by omega),h.cells j hj,dg_put_hi hd.1 (by omega)]
theorem Seg.store {w:World} {b off C N i d:Nat} (h:Seg w (some ⟨b,off,none⟩) C N) (hi:i < N) (hd:d < 4294967296) {v:Int} (hv:v=(d:Nat)) :
  Seg (w.setCell ⟨b,off+i,none⟩ (.int .u32 v)) (some ⟨b,off,none⟩) (put C i 1 d) N:=by
 have hd':d < BB ^ 1:=by rw [Nat.pow_one,BB_eq];exact hd
 refine Seg.mk' (put_lt h.1 hd' (by omega)) (by have:=h.lt (by omega);simpa using this) fun j hj=>?_
 by_cases e:j=i
 ·subst e
  rw [World.cell?_setCell_same (u:=.int .u32 (dg C j:Nat)) _ _ _ (h.cells j hj),hv,dg_put_mid (by omega) (by omega),Nat.sub_self,dg0,Nat.mod_eq_of_lt hd]
 ·rw [World.cell?_setCell_other _ _ _ _ (fun e'=>by simp only [Addr.mk.injEq,true_and,and_true] at e';omega),h.cells j hj]
  by_cases e2:j < i
  ·rw [dg_put_lo e2]
  ·rw [dg_put_hi hd' (by omega)]
set_option maxHeartbeats 1000000 in
theorem addTimes_any (b off n cap X:Nat) (ao:Option Addr) (cap2 Y m:Nat) (w:World) (hm:n≤140737488355328) (hmm:m < 4294967296) (hrow:Row w b) (hS:Seg w (some ⟨b,off,none⟩) X n) (hS2:Seg w ao Y n) (hne:∀ o,ao≠some ⟨b,o,none⟩) :
  Calls Tryz.prog 164 #[.slice (some ⟨b,off,none⟩) n cap,.slice ao n cap2,.int .u32 m] w fun e w'=>e=.returned (.int .u32 ((X+m*Y) / BB ^ n:Nat))∧Wr b off (off+n) w w'∧Seg w' (some ⟨b,off,none⟩) ((X+m*Y) % BB ^ n) n:=by
 go_enter Tryz.func164,Tryz.ntmps164
 go_wp2
 go_loopw [7,12] (fun c i wr=>∃ k:Nat,k≤n∧i=.int .i64 k∧c=.int .u64 (mcy X Y m k:Nat)∧Wr b off (off+n) w wr∧Seg wr (some ⟨b,off,none⟩) (mix (X+m*Y) X k) n) (fun _ i _=>n - (intOf i).toNat)
 case atStart=>exact ⟨0,Nat.zero_le _,rfl,by rw [mcy_zero];rfl,Wr.refl _ _ _ _,by rw [mix_zero];exact hS⟩
 case round =>
  obtain ⟨k,hk,rfl,rfl,hwr,hseg⟩:=hrel
  have hcy:=mcy_le (a:=m) X Y k
  by_cases hlt:k < n
  ·have hcx:=hseg.rest
   have hfz:=fun o=>(hwr.row hrow).frozen o
   have hyr:=hS2.wr hwr hne
   obtain ⟨b2,off2,rfl,hb2,hcell2⟩:=hyr.2 (by omega)
   have h1:=xZ2 X k
   have h2:=xZ2 Y k
   have hp:=prod_int h2 hmm
   obtain ⟨hp0,hp1⟩:=hp
   go_wp2
   go_quiet (fail)
   go_wp2
   go_roundw
   case rel =>
    have e1:=mul_dg X Y m k
    have e2:=mul_cy X Y m k
    have ep:((dg Y k*m:Nat):Int)=((dg Y k:Nat):Int)*(m:Int):=Int.natCast_mul _ _
    refine ⟨k+1,by omega,by go_num,?_,?_,?_⟩
    ·congr 1;omega
    ·exact (hwr.drewN).setCell (off+k) (by omega) (by omega) _
    ·exact (hseg.drewN).set (by omega) hS.1 (by omega)
   case measure=>simp [intOf];omega
  ·have hkm:k=n:=by omega
   subst hkm
   go_wp2
   go_ret
   have e:=mcy_end (a:=m) hS.1 hS2.1
   refine ⟨xJ7 ?_,hwr,hseg.congr (Nat.mod_lt _ (BBp k)) fun i hi=>?_⟩
   ·rw [e] at hcy;rw [e]
   ·rw [dg_mod _ _ _ hi,dg_mix_lo _ _ hi]
theorem mul_step_lt {C X i n:Nat} {Y:Nat} (hX:X < BB ^ n) (hC:C=X*(Y % BB ^ i)):C < BB ^ (i+n):=by
 rw [hC,Nat.mul_comm,Nat.pow_add]
 have h1:Y % BB ^ i < BB ^ i:=Nat.mod_lt _ (BBp i)
 exact Nat.lt_of_le_of_lt (Nat.mul_le_mul_right _ (Nat.le_of_lt h1)) (Nat.mul_lt_mul_of_pos_left hX (BBp i))
theorem mul_put {C X Y i n:Nat} (hX:X < BB ^ n) (hC:C=X*(Y % BB ^ i)) :
  put (put C i n ((C / BB ^ i % BB ^ n+dg Y i*X) % BB ^ n)) (i+n) 1 ((C / BB ^ i % BB ^ n+dg Y i*X) / BB ^ n)=X*(Y % BB ^ (i+1)):=by
 have hlt:=mul_step_lt hX hC
 have hq:C / BB ^ i < BB ^ n:=(Nat.div_lt_iff_lt_mul (BBp i)).2 (by rw [←Nat.pow_add,Nat.add_comm n i];exact hlt)
 rw [Nat.mod_eq_of_lt hq]
 have hdy:=xZ2 Y i
 have hT:C / BB ^ i+dg Y i*X < BB ^ (n+1):=by
  have h1:dg Y i*X≤4294967295*X:=Nat.mul_le_mul_right _ (by omega)
  rw [xQ7,BB_eq]
  rw [BB_eq] at hq hX
  omega
 have e0:X*(Y % BB ^ (i+1))=C+dg Y i*X*BB ^ i:=by
  rw [xJ9,Nat.mul_add,←hC]
  congr 1
  rw [←Nat.mul_assoc,Nat.mul_comm X]
 have e1:X*(Y % BB ^ (i+1))=(C / BB ^ i+dg Y i*X)*BB ^ i+C % BB ^ i:=by
  rw [e0,Nat.add_mul]
  have:=xZ8 C i
  omega
 rw [e1]
 generalize C / BB ^ i+dg Y i*X=T at *
 have hdiv:T / BB ^ n < BB:=(Nat.div_lt_iff_lt_mul (BBp n)).2 (by rw [Nat.mul_comm,←xQ7];exact hT)
 have hD:T / BB ^ n < BB ^ 1:=by rw [Nat.pow_one];exact hdiv
 have hM:T % BB ^ n < BB ^ n:=Nat.mod_lt _ (BBp n)
 have hlo:C % BB ^ i < BB ^ i:=Nat.mod_lt _ (BBp i)
 have hR:T*BB ^ i+C % BB ^ i < BB ^ (i+(n+1)):=put_low_lt hT
 have hL:put (put C i n (T % BB ^ n)) (i+n) 1 (T / BB ^ n) < BB ^ (i+(n+1)):=by
  refine put_lt (put_lt (Nat.lt_of_lt_of_le hlt (xX4 (by omega))) hM (by omega)) hD (by omega)
 refine dg_ext hL hR fun j hj=>?_
 by_cases h1:j < i
 ·rw [dg_put_lo (by omega),dg_put_lo h1,dg_add_mul _ _ _ _ h1,dg_mod _ _ _ h1]
 ·rw [dg_hi _ _ _ _ (show i≤j by omega) hlo]
  by_cases h2:j < i+n
  ·rw [dg_put_lo h2,dg_put_mid (by omega) h2,dg_mod _ _ _ (by omega)]
  ·have hji:j=i+n:=by omega
   subst hji
   rw [dg_put_mid (by omega) (by omega),Nat.sub_self,Nat.add_sub_cancel_left,dg0,←BB_eq]
   rfl
set_option maxHeartbeats 1000000 in
theorem mulByLimbs_any (b off n cap:Nat) (ao ao2:Option Addr) (cap1 X m cap2 Y:Nat) (w:World) (hm:n+m≤140737488355328) (hcap:n+m≤cap) (hn0:0 < n) (hrow:Row w b) (hS:Seg w (some ⟨b,off,none⟩) 0 (n+m)) (hX:Seg w ao X n) (hY:Seg w ao2 Y m) (hne:∀ o,ao≠some ⟨b,o,none⟩) (hne2:∀ o,ao2≠some ⟨b,o,none⟩) :
  Calls Tryz.prog 161 #[.slice (some ⟨b,off,none⟩) (n+m) cap,.slice ao n cap1,.slice ao2 m cap2] w fun e w'=>e=.returned (.tuple #[])∧Wr b off (off+(n+m)) w w'∧Seg w' (some ⟨b,off,none⟩) (X*Y) (n+m):=by
 go_enter Tryz.func161,Tryz.ntmps161
 go_wp2
 go_loopw [9] (fun i wr=>∃ k:Nat,k≤m∧i=.int .i64 k∧Wr b off (off+(n+m)) w wr∧Seg wr (some ⟨b,off,none⟩) (X*(Y % BB ^ k)) (n+m)) (fun i _=>m - (intOf i).toNat)
 case atStart=>exact ⟨0,Nat.zero_le _,rfl,Wr.refl _ _ _ _,by rw [Nat.pow_zero,Nat.mod_one,Nat.mul_zero];exact hS⟩
 case round =>
  obtain ⟨k,hk,rfl,hwr,hseg⟩:=hrel
  by_cases hlt:k < m
  ·have hxr:=hX.wr hwr hne
   have hyr:=hY.wr hwr hne2
   have hfz:=fun o=>(hwr.row hrow).frozen o
   obtain ⟨b2,off2,rfl,hb2,hcell2⟩:=hyr.2 (by omega)
   have h2:=xZ2 Y k
   obtain ⟨C,hC⟩:∃ C,C=X*(Y % BB ^ k):=⟨_,rfl⟩
   rw [←hC] at hseg
   have HC:Hid (C=X*(Y % BB ^ k)):=hC
   clear hC
   have hpart:Seg wr (some ⟨b,off+k,none⟩) (C / BB ^ k % BB ^ n) n:=by
    have:=(hseg.drop k (by omega)).take n (by omega)
    exact this
   have hlk:(C / BB ^ k % BB ^ n+dg Y k*X) / BB ^ n < 4294967296:=by
    have h1:=mcy_end (a:=dg Y k) hpart.1 hX.1
    have h3:=mcy_le (a:=dg Y k) (C / BB ^ k % BB ^ n) X n
    omega
   obtain ⟨q,hq⟩:∃ q,q=(C / BB ^ k % BB ^ n+dg Y k*X) / BB ^ n:=⟨_,rfl⟩
   rw [←hq] at hlk
   have HQ:Hid (q=(C / BB ^ k % BB ^ n+dg Y k*X) / BB ^ n):=hq
   have hcont:∀ W,Dr wr W→Calls Tryz.prog 164 #[.slice (some ⟨b,off+k,none⟩) n (cap - k),.slice ao n cap1,.int .u32 (dg Y k:Nat)] W fun e w'=>e=.returned (.int .u32 (q:Nat))∧Wr b (off+k) (off+k+n) W w'∧Seg w' (some ⟨b,off+k,none⟩) ((C / BB ^ k % BB ^ n+dg Y k*X) % BB ^ n) n :=
    fun W hW=>by rw [hq];exact addTimes_any b (off+k) n (cap - k) _ ao cap1 X (dg Y k) W (by omega) h2 ((hwr.row hrow).dr hW) (hpart.dr hW) (hxr.dr hW) hne
   have HCO:=hcont
   clear hcont hq
   have hsl:=sl_lh b off (n+m) cap k n (k:Int) ((k:Int)+(n:Int)) rfl rfl (by omega) (by omega)
   have hw1:wrap64 ((k:Int)+(n:Int))=(k:Int)+(n:Int):=by unfold wrap64;omega
   have hw2:IntKind.i64.wrap ((k:Int)+(n:Int))=(k:Int)+(n:Int):=by simp [IntKind.wrap,IntKind.bits,IntKind.signed];omega
   go_wp2_with fail
   go_region_with (go_at_call 164;refine (HCO _ ?_).mono ?_;exact (Dr.refl _).drew;rintro e w1 ⟨rfl,hwq,hs1⟩;have hck:w1.cell? ⟨b,off+(k+n),none⟩=some (.int .u32 (dg C (k+n):Nat)):=(by rw [hwq.cell _ (by omega)];exact hseg.cells (k+n) (by omega));have hfk:=fun o=>(hwq.row ((hwr.row hrow).dr (Dr.refl _).drew)).frozen o)
   all_goals go_wp2
   all_goals go_roundw
   case rel =>
    refine ⟨k+1,by omega,by go_num,?_,?_⟩
    ·exact (hwr.trans ((Wr.drew (Wr.refl _ _ _ _)).trans (hwq.mono (by omega) (by omega)))).setCell (off+(k+n)) (by omega) (by omega) _
    ·have h3:=(hseg.drew).splice hwq hs1 (by omega) (by omega)
     have h4:=h3.store (i:=k+n) (d:=q) (by omega) hlk (v:=(q:Nat)) rfl
     rw [HQ.out,mul_put hX.1 HC.out] at h4
     rw [HQ.out]
     exact h4
   case measure=>simp [intOf];omega
  ·have hkm:k=m:=by omega
   subst hkm
   go_wp2
   go_end0
   rw [Nat.mod_eq_of_lt hY.1] at hseg
   exact ⟨rfl,hwr,hseg⟩
end Go.Proofs.YtgfmaejhdbmkoaaGreat
