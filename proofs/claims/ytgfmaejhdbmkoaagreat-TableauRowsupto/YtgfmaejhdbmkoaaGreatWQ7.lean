import Derived.Test.YtgfmaejhdbmkoaaGreatW13
import Derived.Test.YtgfmaejhdbmkoaaGreatW9
import Derived.Deep.LoopGhost
import Derived.Test.YtgfmaejhdbmkoaaGreatWQ1
import Derived.Test.YtgfmaejhdbmkoaaGreatWQ5
set_option linter.unusedSimpArgs false
namespace Go.Proofs.YtgfmaejhdbmkoaaGreat
open Go.RowKit
set_option linter.unusedVariables false
theorem sh_step {Q e d s:Nat} (hd:d < 4294967296) (hs:s≤31) (hQ:Q < 2 ^ s*BB ^ e) :
  dg Q e+d*2 ^ s % 4294967296 < 4294967296∧bits BinOp.or IntKind.u32 ((dg Q e:Nat):Int) (((d*2 ^ s:Nat):Int) % 4294967296)=((dg Q e+d*2 ^ s % 4294967296:Nat):Int) ∧
  put Q e 1 (dg Q e+d*2 ^ s % 4294967296)=Q+d*2 ^ s % 4294967296*BB ^ e∧dg (Q+d*2 ^ s % 4294967296*BB ^ e) (e+1)=0∧d*2 ^ s / 4294967296 < 2 ^ s ∧
  put (Q+d*2 ^ s % 4294967296*BB ^ e) (e+1) 1 (d*2 ^ s / 4294967296)=Q+d*2 ^ s*BB ^ e:=by
 have hp:=Nat.two_pow_pos s
 have h2s:=two_le hs
 have hc:dg Q e < 2 ^ s:=by
  have h1:Q / BB ^ e < 2 ^ s:=(Nat.div_lt_iff_lt_mul (BBp e)).2 hQ
  unfold dg
  exact Nat.lt_of_le_of_lt (Nat.mod_le _ _) h1
 have e32:(4294967296:Nat)=2 ^ s*2 ^ (32 - s):=by rw [←Nat.pow_add,show s+(32 - s)=32 by omega]
 have hl:d*2 ^ s % 4294967296=d % 2 ^ (32 - s)*2 ^ s:=by
  rw [e32,Nat.mul_comm d,Nat.mul_mod_mul_left,Nat.mul_comm]
 have hlm:d*2 ^ s % 4294967296 % 2 ^ s=0:=by rw [hl,Nat.mul_mod_left]
 have hlt:d*2 ^ s % 4294967296 < 4294967296:=Nat.mod_lt _ (by omega)
 have hup:d*2 ^ s % 4294967296+2 ^ s≤4294967296:=by
  have h1:d % 2 ^ (32 - s) < 2 ^ (32 - s):=Nat.mod_lt _ (Nat.two_pow_pos _)
  have h2:(d % 2 ^ (32 - s)+1)*2 ^ s≤2 ^ (32 - s)*2 ^ s:=Nat.mul_le_mul_right _ h1
  rw [Nat.mul_comm (2 ^ (32 - s)),←e32,Nat.add_mul,Nat.one_mul,←hl] at h2
  exact h2
 have hroom:dg Q e+d*2 ^ s % 4294967296 < 4294967296:=by omega
 have hh:d*2 ^ s / 4294967296 < 2 ^ s:=(Nat.div_lt_iff_lt_mul (by omega)).2 (by rw [Nat.mul_comm];exact Nat.mul_lt_mul_of_pos_left hd hp)
 have hQ1:Q+d*2 ^ s % 4294967296*BB ^ e < BB ^ (e+1):=by
  have h1:(d*2 ^ s % 4294967296+2 ^ s)*BB ^ e≤4294967296*BB ^ e:=Nat.mul_le_mul_right _ hup
  rw [Nat.add_mul] at h1
  rw [xQ7,Nat.mul_comm (BB ^ e) BB]
  have e4:BB*BB ^ e=4294967296*BB ^ e:=by rw [←BB_eq]
  rw [e4]
  exact Nat.lt_of_lt_of_le (by omega) h1
 have hz:=dg_big hQ1
 refine ⟨hroom,?_,put_add hroom,hz,hh,?_⟩
 ·have ec:((d*2 ^ s:Nat):Int) % 4294967296=((d*2 ^ s % 4294967296:Nat):Int):=by generalize d*2 ^ s=t;omega
  rw [ec,u32_or_nat _ _ (by omega) (by omega),Nat.or_comm,nat_join s _ _ hlm hc,Nat.add_comm]
 ·have h1:=put_add (Q:=Q+d*2 ^ s % 4294967296*BB ^ e) (p:=e+1) (t:=d*2 ^ s / 4294967296) (by rw [hz];omega)
  rw [hz,Nat.zero_add] at h1
  rw [h1,xQ7,Nat.add_assoc]
  congr 1
  have h2:=Nat.div_add_mod (d*2 ^ s) 4294967296
  have e5:d*2 ^ s / 4294967296*(BB ^ e*BB)=4294967296*(d*2 ^ s / 4294967296)*BB ^ e:=by
   have e6:d*2 ^ s / 4294967296*(BB ^ e*BB)=BB*(d*2 ^ s / 4294967296)*BB ^ e:=by ac_rfl
   rw [e6];congr 2
  rw [e5,←Nat.add_mul,Nat.add_comm,h2]
theorem or_nought {t:Nat} (h:t / 4294967296 < 4294967296):bits BinOp.or IntKind.u32 0 ((t:Int) / 4294967296)=((t / 4294967296:Nat):Int):=by
 have e:(t:Int) / 4294967296=((t / 4294967296:Nat):Int):=by omega
 have:=u32_or_nat 0 (t / 4294967296) (by omega) h
 rw [Nat.zero_or] at this
 rw [e];exact this
theorem sh_val {d s:Nat} (hd:d < 4294967296) (hs:s≤31):IntKind.u64.wrap ((d:Int)*2 ^ s)=((d*2 ^ s:Nat):Int):=by
 have h1:=two_le hs
 have h2:d*2 ^ s≤4294967295*2147483648:=Nat.mul_le_mul (by omega) h1
 rw [IntKind.wrap_u64,←cast_two,←Int.natCast_mul]
 omega
def vd (X s p k:Nat):Nat:=X % BB ^ k*2 ^ s / BB ^ p
theorem vd_zero (X s p:Nat):vd X s p 0=0:=by unfold vd;rw [Nat.pow_zero,Nat.mod_one,Nat.zero_mul,Nat.zero_div]
theorem vd_top (X s k:Nat):X % BB ^ k*2 ^ s < 2 ^ s*BB ^ k:=by
 rw [Nat.mul_comm];exact Nat.mul_lt_mul_of_pos_left (Nat.mod_lt _ (BBp k)) (Nat.two_pow_pos s)
theorem vd_end {X s p n m:Nat} (hX:X < BB ^ n) (he:32*p=m+s):vd X s p n=X / 2 ^ m:=by
 unfold vd
 rw [Nat.mod_eq_of_lt hX,BB_two',he,Nat.pow_add,Nat.mul_div_mul_right _ _ (Nat.two_pow_pos s)]
theorem vd_lt (X s p j:Nat):vd X s p (p+j) < 2 ^ s*BB ^ j:=by
 unfold vd
 refine (Nat.div_lt_iff_lt_mul (BBp p)).2 ?_
 rw [Nat.mul_assoc,←Nat.pow_add,Nat.add_comm j p]
 exact vd_top X s (p+j)
theorem vd_step (X s p j:Nat):vd X s p (p+j+1)=vd X s p (p+j)+dg X (p+j)*2 ^ s*BB ^ j:=by
 unfold vd
 rw [xJ9,Nat.add_mul]
 have e:dg X (p+j)*BB ^ (p+j)*2 ^ s=dg X (p+j)*2 ^ s*BB ^ j*BB ^ p:=by rw [Nat.pow_add];ac_rfl
 rw [e,Nat.add_mul_div_right _ _ (BBp p)]
theorem vd_low {X s p k:Nat} (hs:s≤31) (hk:k < p):vd X s p k=0:=by
 unfold vd
 refine Nat.div_eq_of_lt (Nat.lt_of_lt_of_le (vd_top X s k) ?_)
 refine Nat.le_trans ?_ (xX4 (show k+1≤p from hk))
 rw [xQ7,Nat.mul_comm]
 exact Nat.mul_le_mul_left _ (by have:=two_le hs;rw [BB_eq];omega)
theorem vd_first {X s k:Nat} (hs:s≤31):vd X s (k+1) (k+1)=dg X k*2 ^ s / 4294967296:=by
 obtain ⟨f1,-⟩:=sh_step (Q:=X % BB ^ k*2 ^ s) (e:=k) (xZ2 X k) hs (vd_top X s k)
 have h1:dg (X % BB ^ k*2 ^ s) k=X % BB ^ k*2 ^ s / BB ^ k:=by
  unfold dg
  have h2:X % BB ^ k*2 ^ s / BB ^ k < 2 ^ s:=(Nat.div_lt_iff_lt_mul (BBp k)).2 (vd_top X s k)
  exact Nat.mod_eq_of_lt (Nat.lt_of_lt_of_le h2 (by have:=two_le hs;rw [BB_eq];omega))
 rw [h1] at f1
 unfold vd
 rw [xJ9,Nat.add_mul]
 have e:dg X k*BB ^ k*2 ^ s=dg X k*2 ^ s*BB ^ k:=by ac_rfl
 rw [e,xQ7,←Nat.div_div_eq_div_mul,Nat.add_mul_div_right _ _ (BBp k),BB_eq]
 rw [BB_eq] at f1
 generalize dg X k*2 ^ s=t at *
 generalize X % 4294967296 ^ k*2 ^ s / 4294967296 ^ k=c at *
 omega
set_option maxRecDepth 30000 in
set_option maxHeartbeats 4000000 in
theorem rShift_down (ao:Option Addr) (n cap X m:Nat) (w:World) (hm:n≤70368744177600) (hm0:0 < m) (hmz:m≤1048576) (hS:Seg w ao X n) (hX:X≠0) :
  Calls Tryz.prog 84 #[.slice ao n cap,.int .i64 (-(m:Int))] w fun e w'=>∃ ao',e=.returned (.tuple #[.slice ao' (ln (X / 2 ^ m)) (ln (X / 2 ^ m)),.int .i64 0])∧New w w' ao' (X / 2 ^ m) (ln (X / 2 ^ m)):=by
 have hb0:(((ln X:Nat):Int) == 0)=false:=by rw [beq_eq_false_iff_ne];have:=mt ln_eq_zero.1 hX;omega
 have hln:=xQ4 hS.1
 have hn0:0 < n:=by have:=mt ln_eq_zero.1 hX;omega
 have hng:¬ (0:Int) < -(m:Int):=by omega
 obtain ⟨p,hp⟩:∃ p,p=(m+31) / 32:=⟨_,rfl⟩
 obtain ⟨s,hs⟩:∃ s,s=32*p - m:=⟨_,rfl⟩
 have hs31:s≤31:=by omega
 have hp0:0 < p:=by omega
 have hpb:p≤32768:=by omega
 have HVn:Hid (vd X s p n=X / 2 ^ m):=vd_end hS.1 (by omega)
 have HA:Hid (0 < m % 32→-((m:Int) / 32) - 1 = -(p:Int)∧-((m:Int) % 32)+32=(s:Int)):=fun h=>by omega
 have HB:Hid (¬ 0 < m % 32→-((m:Int) / 32) = -(p:Int)∧-((m:Int) % 32)=(s:Int)):=fun h=>by omega
 clear hp hs hX
 go_enter Tryz.func84,Tryz.ntmps84
 go_wp2_with fail
 refine (xX8 _ _ _ X _ (by omega) hS).mono ?_
 rintro e w1 ⟨a1,rfl,hn1⟩
 go_wp2_with (at_make;refine mk_law _ rfl _ _ rfl _ n rfl rfl (by go_num) (by omega) ?_;intro w2 hnew hrow)
 ·obtain ⟨ew,er⟩:=HA.out (by omega)
  have ed:decide (0 < (m:Int) % 32)=true:=decide_eq_true (by omega)
  simp only [ew,er,ed]
  clear ed
  have hxs:=(hS.below hn1.below (Nat.le_refl _)).below hnew.below (Nat.le_refl _)
  have hB2:=hn1.below.trans (hnew.below.mono hn1.below.size)
  have hg1:=hn1.below.size
  have hne:∀ o,ao≠some ⟨w1.heap.size,o,none⟩:=(hS.below hn1.below (Nat.le_refl _)).ne_new hn0 (Nat.le_refl _)
  clear hn1 ew er
  go_loopw [10] (fun i wr=>∃ k:Nat,k≤n∧i=.int .i64 k∧Wr w1.heap.size 0 (0+n) w2 wr∧Seg wr (some ⟨w1.heap.size,0,none⟩) (vd X s p k) n) (fun i _=>n - (intOf i).toNat)
  case atStart=>exact ⟨0,Nat.zero_le _,rfl,Wr.refl _ _ _ _,by rw [vd_zero];exact hnew.seg⟩
  case round =>
   obtain ⟨k,hk,rfl,hwr,hseg⟩:=hrel
   by_cases hlt:k < n
   ·have hfz:=fun o=>(hwr.row hrow).frozen o
    obtain ⟨b2,o2,rfl,hb2,hcell⟩:=(hxs.wr hwr hne).2 (by omega)
    have hx:=xZ2 X k
    have SV:=sh_val hx hs31
    have hTb:dg X k*2 ^ s < 18446744073709551616:=by
     have:=Nat.mul_le_mul (show dg X k≤4294967295 by omega) (two_le hs31);omega
    by_cases c1:p≤k
    ·obtain ⟨j,hj⟩:∃ j,k=p+j:=⟨k - p,by omega⟩
     have hji:(k:Int)+-(p:Int)=(j:Int):=by omega
     have HL:=hide'' (vd_lt X s p j)
     have ST:=hide'' (sh_step hx hs31 HL.out)
     have HNX:=hide'' (vd_step X s p j)
     rw [←hj] at ST HNX HL
     obtain ⟨Tt,hTt⟩:∃ T,dg X k*2 ^ s=T:=⟨_,rfl⟩
     rw [hTt] at ST SV HNX hTb
     have hjn:j+1 < n:=by omega
     clear hTt hj
     obtain ⟨Q,hQ⟩:∃ Q,vd X s p k=Q:=⟨_,rfl⟩
     rw [hQ] at ST HNX HL hseg
     clear hQ
     have hc1:=hseg.cells j (by omega)
     have hc2:=hseg.cells (j+1) (by omega)
     have HDZ:dg Q (j+1)=0:=by
      refine dg_big (Nat.lt_of_lt_of_le HL.out ?_)
      rw [xQ7,Nat.mul_comm]
      exact Nat.mul_le_mul_left _ (by have:=two_le hs31;rw [BB_eq];omega)
     rw [Nat.zero_add] at hc1
     rw [Nat.zero_add,HDZ] at hc2
     clear HDZ
     go_wp2
     go_roundw
     case rel =>
      obtain ⟨f1,f2,f3,f4,f5,f6⟩:=ST.out
      have h2r:=two_le hs31
      refine ⟨k+1,by omega,by go_num,?_,?_⟩
      ·exact (hwr.setCell j (by omega) (by omega) (.int .u32 (bits BinOp.or IntKind.u32 ((dg Q j:Nat):Int) ((Tt:Int) % 4294967296)))).setCell (j+1) (by omega) (by omega) (.int .u32 (bits BinOp.or IntKind.u32 0 ((Tt:Int) / 4294967296)))
      ·have g1:=hseg.store (i:=j) (d:=dg Q j+Tt % 4294967296) (by omega) f1 (v:=bits BinOp.or IntKind.u32 ((dg Q j:Nat):Int) ((Tt:Int) % 4294967296)) f2
       rw [f3,Nat.zero_add] at g1
       have g2:=g1.store (i:=j+1) (d:=Tt / 4294967296) hjn (by omega) (v:=bits BinOp.or IntKind.u32 0 ((Tt:Int) / 4294967296)) (or_nought (by omega))
       rw [f6,Nat.zero_add,←HNX.out] at g2
       exact g2
     case measure=>simp [intOf];omega
    ·have HV:=hide'' (vd_low (X:=X) hs31 (show k < p by omega))
     rw [HV.out] at hseg
     by_cases c2:k+1=p
     ·have hji:(k:Int)+-(p:Int) = -1:=by omega
      have HNX:Hid (vd X s p (k+1)=dg X k*2 ^ s / 4294967296):=by subst c2;exact vd_first hs31
      have HH:Hid (dg X k*2 ^ s / 4294967296 < 4294967296):=(Nat.div_lt_iff_lt_mul (by omega)).2 hTb
      obtain ⟨Tt,hTt⟩:∃ T,dg X k*2 ^ s=T:=⟨_,rfl⟩
      rw [hTt] at SV HNX hTb HH
      clear hTt c2
      have hc1:=hseg.cells 0 (by omega)
      rw [Nat.zero_add,dg_zero] at hc1
      go_wp2
      go_roundw
      case rel =>
       refine ⟨k+1,by omega,by go_num,hwr.setCell 0 (by omega) (by omega) _,?_⟩
       have g2:=hseg.store (i:=0) (d:=Tt / 4294967296) hn0 HH.out (v:=bits BinOp.or IntKind.u32 0 ((Tt:Int) / 4294967296)) (or_nought HH.out)
       have e:put 0 0 1 (Tt / 4294967296)=Tt / 4294967296:=by
        have:=put_add (Q:=0) (p:=0) (t:=Tt / 4294967296) (by rw [dg_zero];have:=HH.out;omega)
        rw [dg_zero,Nat.pow_zero,Nat.zero_add,Nat.zero_add,Nat.mul_one] at this
        exact this
       rw [e,←HNX.out,Nat.zero_add] at g2
       exact g2
      case measure=>simp [intOf];omega
     ·have HNX:Hid (vd X s p (k+1)=0):=vd_low hs31 (by omega)
      have g1:¬ 0≤(k:Int)+-(p:Int):=by omega
      have g2:¬ 0≤(k:Int)+-(p:Int)+1:=by omega
      go_wp2
      go_roundw
      case rel =>
       refine ⟨k+1,by omega,by go_num,hwr,?_⟩
       rw [HNX.out];exact hseg
      case measure=>simp [intOf];omega
   ·have hkn:k=n:=by omega
    subst hkn
    rw [HVn.out] at hseg
    have hB3:=hB2.trans (hwr.below hg1 hB2.size)
    go_wp2_with fail
    refine (xX8 _ _ _ (X / 2 ^ m) _ (by omega) hseg).mono ?_
    rintro e w5 ⟨a5,rfl,hn5⟩
    go_wp2
    go_ret2
    exact ⟨_,rfl,hn5.back hB3⟩
 ·obtain ⟨ew,er⟩:=HB.out (by omega)
  simp only [ew,er]
  have hxs:=(hS.below hn1.below (Nat.le_refl _)).below hnew.below (Nat.le_refl _)
  have hB2:=hn1.below.trans (hnew.below.mono hn1.below.size)
  have hg1:=hn1.below.size
  have hne:∀ o,ao≠some ⟨w1.heap.size,o,none⟩:=(hS.below hn1.below (Nat.le_refl _)).ne_new hn0 (Nat.le_refl _)
  clear hn1 ew er
  go_loopw [10] (fun i wr=>∃ k:Nat,k≤n∧i=.int .i64 k∧Wr w1.heap.size 0 (0+n) w2 wr∧Seg wr (some ⟨w1.heap.size,0,none⟩) (vd X s p k) n) (fun i _=>n - (intOf i).toNat)
  case atStart=>exact ⟨0,Nat.zero_le _,rfl,Wr.refl _ _ _ _,by rw [vd_zero];exact hnew.seg⟩
  case round =>
   obtain ⟨k,hk,rfl,hwr,hseg⟩:=hrel
   by_cases hlt:k < n
   ·have hfz:=fun o=>(hwr.row hrow).frozen o
    obtain ⟨b2,o2,rfl,hb2,hcell⟩:=(hxs.wr hwr hne).2 (by omega)
    have hx:=xZ2 X k
    have SV:=sh_val hx hs31
    have hTb:dg X k*2 ^ s < 18446744073709551616:=by
     have:=Nat.mul_le_mul (show dg X k≤4294967295 by omega) (two_le hs31);omega
    by_cases c1:p≤k
    ·obtain ⟨j,hj⟩:∃ j,k=p+j:=⟨k - p,by omega⟩
     have hji:(k:Int)+-(p:Int)=(j:Int):=by omega
     have HL:=hide'' (vd_lt X s p j)
     have ST:=hide'' (sh_step hx hs31 HL.out)
     have HNX:=hide'' (vd_step X s p j)
     rw [←hj] at ST HNX HL
     obtain ⟨Tt,hTt⟩:∃ T,dg X k*2 ^ s=T:=⟨_,rfl⟩
     rw [hTt] at ST SV HNX hTb
     have hjn:j+1 < n:=by omega
     clear hTt hj
     obtain ⟨Q,hQ⟩:∃ Q,vd X s p k=Q:=⟨_,rfl⟩
     rw [hQ] at ST HNX HL hseg
     clear hQ
     have hc1:=hseg.cells j (by omega)
     have hc2:=hseg.cells (j+1) (by omega)
     have HDZ:dg Q (j+1)=0:=by
      refine dg_big (Nat.lt_of_lt_of_le HL.out ?_)
      rw [xQ7,Nat.mul_comm]
      exact Nat.mul_le_mul_left _ (by have:=two_le hs31;rw [BB_eq];omega)
     rw [Nat.zero_add] at hc1
     rw [Nat.zero_add,HDZ] at hc2
     clear HDZ
     go_wp2
     go_roundw
     case rel =>
      obtain ⟨f1,f2,f3,f4,f5,f6⟩:=ST.out
      have h2r:=two_le hs31
      refine ⟨k+1,by omega,by go_num,?_,?_⟩
      ·exact (hwr.setCell j (by omega) (by omega) (.int .u32 (bits BinOp.or IntKind.u32 ((dg Q j:Nat):Int) ((Tt:Int) % 4294967296)))).setCell (j+1) (by omega) (by omega) (.int .u32 (bits BinOp.or IntKind.u32 0 ((Tt:Int) / 4294967296)))
      ·have g1:=hseg.store (i:=j) (d:=dg Q j+Tt % 4294967296) (by omega) f1 (v:=bits BinOp.or IntKind.u32 ((dg Q j:Nat):Int) ((Tt:Int) % 4294967296)) f2
       rw [f3,Nat.zero_add] at g1
       have g2:=g1.store (i:=j+1) (d:=Tt / 4294967296) hjn (by omega) (v:=bits BinOp.or IntKind.u32 0 ((Tt:Int) / 4294967296)) (or_nought (by omega))
       rw [f6,Nat.zero_add,←HNX.out] at g2
       exact g2
     case measure=>simp [intOf];omega
    ·have HV:=hide'' (vd_low (X:=X) hs31 (show k < p by omega))
     rw [HV.out] at hseg
     by_cases c2:k+1=p
     ·have hji:(k:Int)+-(p:Int) = -1:=by omega
      have HNX:Hid (vd X s p (k+1)=dg X k*2 ^ s / 4294967296):=by subst c2;exact vd_first hs31
      have HH:Hid (dg X k*2 ^ s / 4294967296 < 4294967296):=(Nat.div_lt_iff_lt_mul (by omega)).2 hTb
      obtain ⟨Tt,hTt⟩:∃ T,dg X k*2 ^ s=T:=⟨_,rfl⟩
      rw [hTt] at SV HNX hTb HH
      clear hTt c2
      have hc1:=hseg.cells 0 (by omega)
      rw [Nat.zero_add,dg_zero] at hc1
      go_wp2
      go_roundw
      case rel =>
       refine ⟨k+1,by omega,by go_num,hwr.setCell 0 (by omega) (by omega) _,?_⟩
       have g2:=hseg.store (i:=0) (d:=Tt / 4294967296) hn0 HH.out (v:=bits BinOp.or IntKind.u32 0 ((Tt:Int) / 4294967296)) (or_nought HH.out)
       have e:put 0 0 1 (Tt / 4294967296)=Tt / 4294967296:=by
        have:=put_add (Q:=0) (p:=0) (t:=Tt / 4294967296) (by rw [dg_zero];have:=HH.out;omega)
        rw [dg_zero,Nat.pow_zero,Nat.zero_add,Nat.zero_add,Nat.mul_one] at this
        exact this
       rw [e,←HNX.out,Nat.zero_add] at g2
       exact g2
      case measure=>simp [intOf];omega
     ·have HNX:Hid (vd X s p (k+1)=0):=vd_low hs31 (by omega)
      have g1:¬ 0≤(k:Int)+-(p:Int):=by omega
      have g2:¬ 0≤(k:Int)+-(p:Int)+1:=by omega
      go_wp2
      go_roundw
      case rel =>
       refine ⟨k+1,by omega,by go_num,hwr,?_⟩
       rw [HNX.out];exact hseg
      case measure=>simp [intOf];omega
   ·have hkn:k=n:=by omega
    subst hkn
    rw [HVn.out] at hseg
    have hB3:=hB2.trans (hwr.below hg1 hB2.size)
    go_wp2_with fail
    refine (xX8 _ _ _ (X / 2 ^ m) _ (by omega) hseg).mono ?_
    rintro e w5 ⟨a5,rfl,hn5⟩
    go_wp2
    go_ret2
    exact ⟨_,rfl,hn5.back hB3⟩
theorem xZ5 {p:Prop} (h:p):Hid p:=h
theorem gcd_half {Z B:Nat} (h:B % 2=1):Nat.gcd (2*Z) B=Nat.gcd Z B :=
 Nat.Coprime.gcd_mul_left_cancel Z (by
  rw [Nat.coprime_iff_gcd_eq_one]
  rw [Nat.gcd_rec,h];rfl)
theorem gcd_half' {Z A:Nat} (h:A % 2=1):Nat.gcd A (2*Z)=Nat.gcd A Z:=by
 rw [Nat.gcd_comm,gcd_half h,Nat.gcd_comm]
theorem gcd_less {Z A B:Nat} (h:Z+A=B):Nat.gcd A Z=Nat.gcd A B:=by
 rw [←h,Nat.gcd_add_self_right]
theorem bit0 (X:Nat):bitB X 0=decide (X % 2=1):=by
 unfold bitB bt
 simp
theorem twos_few {A t X n:Nat} (h:A*2 ^ t=X) (hA:A≠0) (hX:X < BB ^ n):t < 32*n:=by
 have h1:1*2 ^ t≤A*2 ^ t:=Nat.mul_le_mul_right _ (Nat.pos_of_ne_zero hA)
 have h2:BB ^ n=2 ^ (32*n):=by rw [Nat.pow_mul,BB_eq]
 rw [h,Nat.one_mul] at h1
 rw [h2] at hX
 exact (Nat.pow_lt_pow_iff_right (by omega)).1 (Nat.lt_of_le_of_lt h1 hX)
theorem cmp_eq0 (X Y:Nat):(cmpI X Y == 0)=decide (X=Y):=by
 unfold cmpI
 by_cases h:X < Y
 ·rw [if_pos h,decide_eq_false (by omega)];rfl
 ·rw [if_neg h]
  by_cases h2:X=Y
  ·rw [if_pos h2,decide_eq_true h2];rfl
  ·rw [if_neg h2,decide_eq_false h2];rfl
theorem cmp_gt0 (X Y:Nat):(0 < cmpI X Y)↔Y < X:=by
 unfold cmpI
 by_cases h:X < Y
 ·rw [if_pos h];omega
 ·rw [if_neg h]
  by_cases h2:X=Y
  ·rw [if_pos h2];omega
  ·rw [if_neg h2];omega
theorem rHalf (ao:Option Addr) (n cap X Z:Nat) (w:World) (hm:n≤70368744177600) (hS:Seg w ao X n) (hX:X≠0) (h:X=2*Z) :
  Calls Tryz.prog 84 #[.slice ao n cap,.int .i64 (-1)] w fun e w'=>∃ ao',e=.returned (.tuple #[.slice ao' (ln Z) (ln Z),.int .i64 0])∧New w w' ao' Z (ln Z):=by
 have:=rShift_down ao n cap X 1 w hm (by omega) (by omega) hS hX
 have e:X / 2 ^ 1=Z:=by omega
 rw [e] at this
 exact this
theorem rSub_is (ao ao2:Option Addr) (n cap X m cap2 Y Z:Nat) (w:World) (hm:n≤70368744177664) (hS:Seg w ao X n) (hm2:m≤70368744177664) (hS2:Seg w ao2 Y m) (h:Z+Y=X) :
  Calls Tryz.prog 85 #[.slice ao n cap,.slice ao2 m cap2] w fun e w'=>∃ ao',e=.returned (.tuple #[.slice ao' (ln Z) (ln Z),.int .i64 0])∧New w w' ao' Z (ln Z):=by
 have:=rSub_any ao ao2 n cap X m cap2 Y w hm hS hm2 hS2 (by omega)
 have e:X - Y=Z:=by omega
 rwa [e] at this
theorem twice_is (ao:Option Addr) (n cap X Z:Nat) (w:World) (hm:n≤70368744177663) (hS:Seg w ao X n) (h:Z=2*X) :
  Calls Tryz.prog 86 #[.slice ao n cap,.bool false] w fun e w'=>∃ ao',e=.returned (.slice ao' (ln Z) (ln Z))∧New w w' ao' Z (ln Z):=by
 have:=twice_any ao n cap X false w hm hS
 have e:tw X false=Z:=by unfold tw;rw [h];rfl
 rwa [e] at this
theorem rBit0 (ao:Option Addr) (n cap X:Nat) (w:World) (hm:n≤70368744177664) (hS:Seg w ao X n) (b:Bool) (hb:decide (X % 2=1)=b) :
  Calls Tryz.prog 83 #[.slice ao n cap,.int .i64 0] w fun e w'=>e=.returned (.bool b)∧w=w':=by
 have:=rBit_any ao n cap X 0 w hm (by omega) (by omega) hS
 rwa [bit0,hb] at this
set_option maxHeartbeats 4000000 in
theorem rGcd_any (ao ao2:Option Addr) (n cap X m cap2 Y:Nat) (w:World) (hm:n≤70368744177500) (hS:Seg w ao X n) (hm2:m≤70368744177500) (hS2:Seg w ao2 Y m) :
  Calls Tryz.prog 64 #[.slice ao n cap,.slice ao2 m cap2] w fun e w'=>∃ ag,e=.returned (.slice ag (ln (Nat.gcd X Y)) (ln (Nat.gcd X Y)))∧New w w' ag (Nat.gcd X Y) (ln (Nat.gcd X Y)):=by
 have hl:=xQ4 hS.1
 have hl2:=xQ4 hS2.1
 by_cases hX:X=0
 ·have hb:(((ln X:Nat):Int) == 0)=true:=by rw [hX,xX7];rfl
  have HX:=xZ5 hX
  clear hX
  go_enter Tryz.func64,Tryz.ntmps64
  go_wp2_with fail
  refine (xX8 _ _ _ X _ (by omega) hS).mono ?_
  rintro e w1 ⟨a1,rfl,hn1⟩
  go_wp2_with fail
  refine (xX8 _ _ _ Y _ (by omega) (hS2.below hn1.below (Nat.le_refl _))).mono ?_
  rintro e w2 ⟨a2,rfl,hn2⟩
  go_wp2
  go_ret
  have e:Nat.gcd X Y=Y:=by rw [HX.out,Nat.gcd_zero_left]
  rw [e]
  exact ⟨a2,rfl,hn2.back hn1.below⟩
 have hbx:(((ln X:Nat):Int) == 0)=false:=by rw [beq_eq_false_iff_ne];have:=mt ln_eq_zero.1 hX;omega
 by_cases hY:Y=0
 ·have hb:(((ln Y:Nat):Int) == 0)=true:=by rw [hY,xX7];rfl
  have HY:=xZ5 hY
  clear hX hY
  go_enter Tryz.func64,Tryz.ntmps64
  go_wp2_with fail
  refine (xX8 _ _ _ X _ (by omega) hS).mono ?_
  rintro e w1 ⟨a1,rfl,hn1⟩
  go_wp2_with fail
  refine (xX8 _ _ _ Y _ (by omega) (hS2.below hn1.below (Nat.le_refl _))).mono ?_
  rintro e w2 ⟨a2,rfl,hn2⟩
  go_wp2
  go_ret
  have e:Nat.gcd X Y=X:=by rw [HY.out,Nat.gcd_zero_right]
  rw [e]
  exact ⟨a1,rfl,hn1.later hn2.below⟩
 have hby:(((ln Y:Nat):Int) == 0)=false:=by rw [beq_eq_false_iff_ne];have:=mt ln_eq_zero.1 hY;omega
 have HX:=xZ5 hX
 have HY:=xZ5 hY
 clear hX hY
 go_enter Tryz.func64,Tryz.ntmps64
 go_wp2_with fail
 refine (xX8 _ _ _ X _ (by omega) hS).mono ?_
 rintro e w1 ⟨a1,rfl,hn1⟩
 go_wp2_with fail
 refine (xX8 _ _ _ Y _ (by omega) (hS2.below hn1.below (Nat.le_refl _))).mono ?_
 rintro e w2 ⟨a2,rfl,hn2⟩
 have hA:=hn1.later hn2.below
 have hB:=hn2.back hn1.below
 clear hn1 hn2
 have ho:=single_new w2 1 89 1 (by omega) rfl
 have hO:=ho.back hB.below
 replace hA:=hA.later ho.below
 replace hB:=hB.later ho.below
 go_wp2_with fail
 refine (rCmp_any _ _ _ _ X _ _ 1 _ (by omega) hA.seg (by omega) ho.seg).mono ?_
 rintro e w3 ⟨rfl,rfl⟩
 by_cases hx1:X=1
 ·have hc1:(cmpI X 1 == 0)=true:=by rw [cmp_eq0,hx1];rfl
  have HX1:=xZ5 hx1
  clear hx1
  go_wp2
  go_ret
  have e:Nat.gcd X Y=1:=by rw [HX1.out,Nat.gcd_one_left]
  rw [e,ln_one]
  exact ⟨_,rfl,hO⟩
 have hc1:(cmpI X 1 == 0)=false:=by rw [cmp_eq0,decide_eq_false hx1]
 clear hx1
 go_wp2_with fail
 refine (rCmp_any _ _ _ _ Y _ _ 1 _ (by omega) hB.seg (by omega) ho.seg).mono ?_
 rintro e w3 ⟨rfl,rfl⟩
 by_cases hy1:Y=1
 ·have hc2:(cmpI Y 1 == 0)=true:=by rw [cmp_eq0,hy1];rfl
  have HX1:=xZ5 hy1
  clear hy1
  go_wp2
  go_ret
  have e:Nat.gcd X Y=1:=by rw [HX1.out,Nat.gcd_one_right]
  rw [e,ln_one]
  exact ⟨_,rfl,hO⟩
 have hc2:(cmpI Y 1 == 0)=false:=by rw [cmp_eq0,decide_eq_false hy1]
 clear hy1
 go_wp2_with fail
 go_loopg [0,1,6] X (fun k va vb vt wr=>∃ aa ab A B t,va=.slice aa (ln A) (ln A)∧vb=.slice ab (ln B) (ln B)∧vt=.int .i64 ((t:Nat):Int)∧A=k∧A≠0∧B≠0∧A*2 ^ t=X∧B*2 ^ t=Y∧New w wr aa A (ln A)∧New w wr ab B (ln B))
 case atStart=>exact ⟨_,_,X,Y,0,rfl,rfl,rfl,rfl,HX.out,HY.out,by rw [Nat.pow_zero,Nat.mul_one],by rw [Nat.pow_zero,Nat.mul_one],hA,hB⟩
 case round =>
  clear hA hB hO ho hc1 hc2
  obtain ⟨aa,ab,A,B,t,rfl,rfl,rfl,hk,hA0,hB0,hAt,hBt,hNa,hNb⟩:=hrel
  have ht:t < 32*n:=twos_few hAt hA0 hS.1
  have lA:ln A≤70368744177500:=by
   have:ln A≤ln X:=xZ4 (by rw [←hAt];exact Nat.le_mul_of_pos_right _ (Nat.two_pow_pos t))
   omega
  have lB:ln B≤70368744177500:=by
   have:ln B≤ln Y:=xZ4 (by rw [←hBt];exact Nat.le_mul_of_pos_right _ (Nat.two_pow_pos t))
   omega
  have HK:=xZ5 hk
  have HA0:=xZ5 hA0
  have HB0:=xZ5 hB0
  have HAt:=xZ5 hAt
  have HBt:=xZ5 hBt
  clear hk hA0 hB0 hAt hBt
  have ht2:t≤2251799813685248:=by omega
  clear ht
  by_cases hAe:A % 2=1
  ·have HO:Hid (A % 2=1∨B % 2=1):=Or.inl hAe
   go_wp2_with fail
   refine (rBit0 _ _ _ A _ (by omega) hNa.seg true (by rw [hAe];rfl)).mono ?_
   rintro e w3 ⟨rfl,rfl⟩
   clear hAe
   go_wp2_with fail
   obtain ⟨D,hD⟩:∃ D,Nat.gcd A B=D:=⟨_,rfl⟩
   obtain ⟨MM,hMM⟩:∃ M,M=max A B:=⟨_,rfl⟩
   have HM:Hid (A≤MM∧B≤MM):=⟨by omega,by omega⟩
   have lM:ln MM≤70368744177500:=by
    rcases Nat.le_total A B with h | h
    ·rw [hMM,Nat.max_eq_right h];exact lB
    ·rw [hMM,Nat.max_eq_left h];exact lA
   have HG:Hid (Nat.gcd X Y=D*2 ^ t):=by show _=_;rw [←HAt.out,←HBt.out,Nat.gcd_mul_right,hD]
   have lG:ln (Nat.gcd X Y)≤70368744177500:=by
    have:ln (Nat.gcd X Y)≤ln X:=xZ4 (Nat.gcd_le_left _ (Nat.pos_of_ne_zero HX.out))
    omega
   have HD:=xZ5 hD
   clear hD hMM
   obtain ⟨GG,hGG⟩:∃ G,Nat.gcd X Y=G:=⟨_,rfl⟩
   rw [hGG] at lG
   have HGG:=xZ5 hGG
   clear hGG
   go_loopg [0,1] (A+B) (fun k va vb w4=>∃ aa ab A B,va=.slice aa (ln A) (ln A)∧vb=.slice ab (ln B) (ln B)∧A+B=k∧A≠0∧A≤MM∧B≤MM∧(A % 2=1∨B % 2=1)∧Nat.gcd A B=D∧New w w4 aa A (ln A)∧New w w4 ab B (ln B))
   case atStart=>exact ⟨_,_,A,B,rfl,rfl,rfl,HA0.out,HM.out.1,HM.out.2,HO.out,HD.out,hNa,hNb⟩
   case round =>
    clear hNa hNb HD HM HO HA0 HB0 HAt HBt lA lB HK
    obtain ⟨aa,ab,A,B,rfl,rfl,hk,hA0,hAM,hBM,hO,hD,hNa,hNb⟩:=hrel
    have lA:ln A≤70368744177500:=by have:ln A≤ln MM:=xZ4 hAM;omega
    have lB:ln B≤70368744177500:=by have:ln B≤ln MM:=xZ4 hBM;omega
    have HK:=xZ5 hk
    have HA0:=xZ5 hA0
    have HAM:=xZ5 hAM
    have HBM:=xZ5 hBM
    have HO:=xZ5 hO
    have HD:=xZ5 hD
    clear hk hA0 hAM hBM hO hD
    by_cases hB0:0 < ln B
    rotate_left
    ·have HB0:=xZ5 (ln_eq_zero.1 (Nat.eq_zero_of_not_pos hB0))
     have HE:Hid (A*2 ^ t=GG):=by
      show _=_
      rw [←HGG.out,HG.out,←HD.out,HB0.out,Nat.gcd_zero_right]
     go_wp2_with fail
     go_loopw [0,7] (fun va vi w5=>∃ (aa:Option Addr) (i Z:Nat),va=.slice aa (ln Z) (ln Z)∧vi=.int .i64 i∧i≤t∧Z=A*2 ^ i∧New w w5 aa Z (ln Z)) (fun _ vi _=>t - (intOf vi).toNat)
     case atStart=>exact ⟨_,0,A,rfl,rfl,Nat.zero_le _,by rw [Nat.pow_zero,Nat.mul_one],hNa⟩
     case round =>
      clear hNa hNb
      obtain ⟨ac,i,Z,rfl,rfl,hi,hZ,hNz⟩:=hrel
      have HZ:=xZ5 hZ
      clear hZ
      by_cases hit:i < t
      ·have lZ:ln Z≤70368744177500:=by
        have:ln Z≤ln GG:=xZ4 (by rw [HZ.out,←HE.out];exact Nat.mul_le_mul_left _ (Nat.pow_le_pow_right (by omega) hi))
        omega
       go_wp2_with fail
       refine (twice_is _ _ _ Z (2*Z) _ (by omega) hNz.seg rfl).mono ?_
       rintro e w6 ⟨a6,rfl,hn6⟩
       go_wp2_with fail
       go_roundw
       case rel=>exact ⟨a6,i+1,2*Z,rfl,by go_num,by omega,by rw [HZ.out,Nat.pow_succ];grind,hn6.back hNz.below⟩
       case measure=>simp [intOf];omega
      ·go_wp2_with fail
       go_ret
       have e:i=t:=by omega
       have e2:Nat.gcd X Y=Z:=by rw [HGG.out,←HE.out,HZ.out,e]
       rw [e2]
       exact ⟨ac,rfl,hNz⟩
    ·have HB0:Hid (B≠0):=fun h=>by rw [h,xX7] at hB0;omega
     go_wp2_with fail
     go_loopg [0] A (fun k va w5=>∃ aa A',va=.slice aa (ln A') (ln A')∧A'=k∧A'≠0∧A'≤A∧(A' % 2=1∨B % 2=1)∧Nat.gcd A' B=D∧New w w5 aa A' (ln A')∧New w w5 ab B (ln B))
     case atStart=>exact ⟨_,A,rfl,rfl,HA0.out,Nat.le_refl _,HO.out,HD.out,hNa,hNb⟩
     case round =>
      clear hNa hNb
      obtain ⟨a5,A5,rfl,hk5,hA5,hle5,hO5,hD5,hNa,hNb⟩:=hrel
      have lA5:ln A5≤70368744177500:=by have:ln A5≤ln A:=xZ4 hle5;omega
      have HK5:=xZ5 hk5
      have HA5:=xZ5 hA5
      have HL5:=xZ5 hle5
      have HO5:=xZ5 hO5
      have HD5:=xZ5 hD5
      clear hk5 hA5 hle5 hO5 hD5
      by_cases hAe:A5 % 2=1
      ·have HAe:=xZ5 hAe
       go_wp2_with fail
       refine (rBit0 _ _ _ A5 _ (by omega) hNa.seg true (by rw [hAe];rfl)).mono ?_
       rintro e w6 ⟨rfl,rfl⟩
       clear hAe
       go_wp2_with fail
       go_loopg [1] B (fun k vb w7=>∃ ab B',vb=.slice ab (ln B') (ln B')∧B'=k∧B'≠0∧B'≤B∧Nat.gcd A5 B'=D∧New w w7 a5 A5 (ln A5)∧New w w7 ab B' (ln B'))
       case atStart=>exact ⟨_,B,rfl,rfl,HB0.out,Nat.le_refl _,HD5.out,hNa,hNb⟩
       case round =>
        clear hNa hNb
        obtain ⟨b6,B6,rfl,hk6,hB6,hle6,hD6,hNa,hNb⟩:=hrel
        have lB6:ln B6≤70368744177500:=by have:ln B6≤ln B:=xZ4 hle6;omega
        have HK6:=xZ5 hk6
        have HB6:=xZ5 hB6
        have HL6:=xZ5 hle6
        have HD6:=xZ5 hD6
        clear hk6 hB6 hle6 hD6
        by_cases hBe:B6 % 2=1
        ·have HBe:=xZ5 hBe
         go_wp2_with fail
         refine (rBit0 _ _ _ B6 _ (by omega) hNb.seg true (by rw [hBe];rfl)).mono ?_
         rintro e w8 ⟨rfl,rfl⟩
         clear hBe
         go_wp2_with fail
         refine (rCmp_any _ _ _ _ A5 _ _ B6 _ (by omega) hNa.seg (by omega) hNb.seg).mono ?_
         rintro e w8 ⟨rfl,rfl⟩
         by_cases hgt:B6 < A5
         ·obtain ⟨Z,hZ⟩:∃ Z,Z+B6=A5:=⟨A5 - B6,by omega⟩
          have HZ:=xZ5 hZ
          have hcm:=(cmp_gt0 A5 B6).2 hgt
          clear hZ hgt
          go_wp2_with fail
          refine (rSub_is _ _ _ _ A5 _ _ B6 Z _ (by omega) hNa.seg (by omega) hNb.seg HZ.out).mono ?_
          rintro e w8 ⟨a8,rfl,hn8⟩
          go_wp2_with fail
          go_roundg (B6+Z)
          case measure=>have:=HZ.out;have:=HB6.out;have:=HK.out;have:=HL5.out;have:=HL6.out;have:=HB0.out;omega
          case rel =>
           have z1:=HZ.out;have z2:=HL5.out;have z3:=HL6.out;have z4:=HAM.out;have z5:=HBM.out
           refine ⟨_,_,B6,Z,rfl,rfl,rfl,HB6.out,by omega,by omega,Or.inl HBe.out,?_,hNb.later hn8.below,hn8.back hNa.below⟩
           rw [gcd_less z1,Nat.gcd_comm,HD6.out]
         ·obtain ⟨Z,hZ⟩:∃ Z,Z+A5=B6:=⟨B6 - A5,by omega⟩
          have HZ:=xZ5 hZ
          have hcm:=mt (cmp_gt0 A5 B6).1 hgt
          clear hZ hgt
          go_wp2_with fail
          refine (rSub_is _ _ _ _ B6 _ _ A5 Z _ (by omega) hNb.seg (by omega) hNa.seg HZ.out).mono ?_
          rintro e w8 ⟨a8,rfl,hn8⟩
          go_wp2_with fail
          go_roundg (A5+Z)
          case measure=>have:=HZ.out;have:=HA5.out;have:=HK.out;have:=HL5.out;have:=HL6.out;have:=HB0.out;omega
          case rel =>
           have z1:=HZ.out;have z2:=HL5.out;have z3:=HL6.out;have z4:=HAM.out;have z5:=HBM.out
           refine ⟨_,_,A5,Z,rfl,rfl,rfl,HA5.out,by omega,by omega,Or.inl HAe.out,?_,hNa.later hn8.below,hn8.back hNa.below⟩
           rw [gcd_less z1,HD6.out]
        ·obtain ⟨B2,hB2⟩:∃ Z,B6=2*Z:=⟨B6 / 2,by omega⟩
         have HB2:=xZ5 hB2
         have HbB:Hid (decide (B6 % 2=1)=false):=decide_eq_false hBe
         clear hB2 hBe
         go_wp2_with fail
         refine (rBit0 _ _ _ B6 _ (by omega) hNb.seg false HbB.out).mono ?_
         rintro e w8 ⟨rfl,rfl⟩
         go_wp2_with fail
         refine (rHalf _ _ _ B6 B2 _ (by omega) hNb.seg HB6.out HB2.out).mono ?_
         rintro e w8 ⟨a8,rfl,hn8⟩
         go_wp2_with fail
         go_roundg B2
         case measure=>have:=HB2.out;have:=HB6.out;have:=HK6.out;omega
         case rel =>
          have z1:=HB2.out;have z2:=HB6.out;have z3:=HL6.out
          refine ⟨_,B2,rfl,rfl,by omega,by omega,?_,hNa.later hn8.below,hn8.back hNb.below⟩
          rw [←gcd_half' HAe.out,←z1,HD6.out]
      ·obtain ⟨A2,hA2⟩:∃ Z,A5=2*Z:=⟨A5 / 2,by omega⟩
       have HA2:=xZ5 hA2
       have HbA:Hid (decide (A5 % 2=1)=false):=decide_eq_false hAe
       have HBo:Hid (B % 2=1):=by rcases HO5.out with h | h;exact absurd h hAe;exact h
       clear hA2 hAe
       go_wp2_with fail
       refine (rBit0 _ _ _ A5 _ (by omega) hNa.seg false HbA.out).mono ?_
       rintro e w8 ⟨rfl,rfl⟩
       go_wp2_with fail
       refine (rHalf _ _ _ A5 A2 _ (by omega) hNa.seg HA5.out HA2.out).mono ?_
       rintro e w8 ⟨a8,rfl,hn8⟩
       go_wp2_with fail
       go_roundg A2
       case measure=>have:=HA2.out;have:=HA5.out;have:=HK5.out;omega
       case rel =>
        have z1:=HA2.out;have z2:=HA5.out;have z3:=HL5.out
        refine ⟨_,A2,rfl,rfl,by omega,by omega,Or.inr HBo.out,?_,hn8.back hNa.below,hNb.later hn8.below⟩
        rw [←gcd_half HBo.out,←z1,HD5.out]
  ·by_cases hBe:B % 2=1
   ·have HO:Hid (A % 2=1∨B % 2=1):=Or.inr hBe
    have HbA:Hid (decide (A % 2=1)=false):=decide_eq_false hAe
    go_wp2_with fail
    refine (rBit0 _ _ _ A _ (by omega) hNa.seg false HbA.out).mono ?_
    rintro e w3 ⟨rfl,rfl⟩
    go_wp2_with fail
    refine (rBit0 _ _ _ B _ (by omega) hNb.seg true (by rw [hBe];rfl)).mono ?_
    rintro e w3 ⟨rfl,rfl⟩
    clear hAe hBe
    go_wp2_with fail
    obtain ⟨D,hD⟩:∃ D,Nat.gcd A B=D:=⟨_,rfl⟩
    obtain ⟨MM,hMM⟩:∃ M,M=max A B:=⟨_,rfl⟩
    have HM:Hid (A≤MM∧B≤MM):=⟨by omega,by omega⟩
    have lM:ln MM≤70368744177500:=by
     rcases Nat.le_total A B with h | h
     ·rw [hMM,Nat.max_eq_right h];exact lB
     ·rw [hMM,Nat.max_eq_left h];exact lA
    have HG:Hid (Nat.gcd X Y=D*2 ^ t):=by show _=_;rw [←HAt.out,←HBt.out,Nat.gcd_mul_right,hD]
    have lG:ln (Nat.gcd X Y)≤70368744177500:=by
     have:ln (Nat.gcd X Y)≤ln X:=xZ4 (Nat.gcd_le_left _ (Nat.pos_of_ne_zero HX.out))
     omega
    have HD:=xZ5 hD
    clear hD hMM
    obtain ⟨GG,hGG⟩:∃ G,Nat.gcd X Y=G:=⟨_,rfl⟩
    rw [hGG] at lG
    have HGG:=xZ5 hGG
    clear hGG
    go_loopg [0,1] (A+B) (fun k va vb w4=>∃ aa ab A B,va=.slice aa (ln A) (ln A)∧vb=.slice ab (ln B) (ln B)∧A+B=k∧A≠0∧A≤MM∧B≤MM∧(A % 2=1∨B % 2=1)∧Nat.gcd A B=D∧New w w4 aa A (ln A)∧New w w4 ab B (ln B))
    case atStart=>exact ⟨_,_,A,B,rfl,rfl,rfl,HA0.out,HM.out.1,HM.out.2,HO.out,HD.out,hNa,hNb⟩
    case round =>
     clear hNa hNb HD HM HO HA0 HB0 HAt HBt lA lB HK
     obtain ⟨aa,ab,A,B,rfl,rfl,hk,hA0,hAM,hBM,hO,hD,hNa,hNb⟩:=hrel
     have lA:ln A≤70368744177500:=by have:ln A≤ln MM:=xZ4 hAM;omega
     have lB:ln B≤70368744177500:=by have:ln B≤ln MM:=xZ4 hBM;omega
     have HK:=xZ5 hk
     have HA0:=xZ5 hA0
     have HAM:=xZ5 hAM
     have HBM:=xZ5 hBM
     have HO:=xZ5 hO
     have HD:=xZ5 hD
     clear hk hA0 hAM hBM hO hD
     by_cases hB0:0 < ln B
     rotate_left
     ·have HB0:=xZ5 (ln_eq_zero.1 (Nat.eq_zero_of_not_pos hB0))
      have HE:Hid (A*2 ^ t=GG):=by
       show _=_
       rw [←HGG.out,HG.out,←HD.out,HB0.out,Nat.gcd_zero_right]
      go_wp2_with fail
      go_loopw [0,7] (fun va vi w5=>∃ (aa:Option Addr) (i Z:Nat),va=.slice aa (ln Z) (ln Z)∧vi=.int .i64 i∧i≤t∧Z=A*2 ^ i∧New w w5 aa Z (ln Z)) (fun _ vi _=>t - (intOf vi).toNat)
      case atStart=>exact ⟨_,0,A,rfl,rfl,Nat.zero_le _,by rw [Nat.pow_zero,Nat.mul_one],hNa⟩
      case round =>
       clear hNa hNb
       obtain ⟨ac,i,Z,rfl,rfl,hi,hZ,hNz⟩:=hrel
       have HZ:=xZ5 hZ
       clear hZ
       by_cases hit:i < t
       ·have lZ:ln Z≤70368744177500:=by
         have:ln Z≤ln GG:=xZ4 (by rw [HZ.out,←HE.out];exact Nat.mul_le_mul_left _ (Nat.pow_le_pow_right (by omega) hi))
         omega
        go_wp2_with fail
        refine (twice_is _ _ _ Z (2*Z) _ (by omega) hNz.seg rfl).mono ?_
        rintro e w6 ⟨a6,rfl,hn6⟩
        go_wp2_with fail
        go_roundw
        case rel=>exact ⟨a6,i+1,2*Z,rfl,by go_num,by omega,by rw [HZ.out,Nat.pow_succ];grind,hn6.back hNz.below⟩
        case measure=>simp [intOf];omega
       ·go_wp2_with fail
        go_ret
        have e:i=t:=by omega
        have e2:Nat.gcd X Y=Z:=by rw [HGG.out,←HE.out,HZ.out,e]
        rw [e2]
        exact ⟨ac,rfl,hNz⟩
     ·have HB0:Hid (B≠0):=fun h=>by rw [h,xX7] at hB0;omega
      go_wp2_with fail
      go_loopg [0] A (fun k va w5=>∃ aa A',va=.slice aa (ln A') (ln A')∧A'=k∧A'≠0∧A'≤A∧(A' % 2=1∨B % 2=1)∧Nat.gcd A' B=D∧New w w5 aa A' (ln A')∧New w w5 ab B (ln B))
      case atStart=>exact ⟨_,A,rfl,rfl,HA0.out,Nat.le_refl _,HO.out,HD.out,hNa,hNb⟩
      case round =>
       clear hNa hNb
       obtain ⟨a5,A5,rfl,hk5,hA5,hle5,hO5,hD5,hNa,hNb⟩:=hrel
       have lA5:ln A5≤70368744177500:=by have:ln A5≤ln A:=xZ4 hle5;omega
       have HK5:=xZ5 hk5
       have HA5:=xZ5 hA5
       have HL5:=xZ5 hle5
       have HO5:=xZ5 hO5
       have HD5:=xZ5 hD5
       clear hk5 hA5 hle5 hO5 hD5
       by_cases hAe:A5 % 2=1
       ·have HAe:=xZ5 hAe
        go_wp2_with fail
        refine (rBit0 _ _ _ A5 _ (by omega) hNa.seg true (by rw [hAe];rfl)).mono ?_
        rintro e w6 ⟨rfl,rfl⟩
        clear hAe
        go_wp2_with fail
        go_loopg [1] B (fun k vb w7=>∃ ab B',vb=.slice ab (ln B') (ln B')∧B'=k∧B'≠0∧B'≤B∧Nat.gcd A5 B'=D∧New w w7 a5 A5 (ln A5)∧New w w7 ab B' (ln B'))
        case atStart=>exact ⟨_,B,rfl,rfl,HB0.out,Nat.le_refl _,HD5.out,hNa,hNb⟩
        case round =>
         clear hNa hNb
         obtain ⟨b6,B6,rfl,hk6,hB6,hle6,hD6,hNa,hNb⟩:=hrel
         have lB6:ln B6≤70368744177500:=by have:ln B6≤ln B:=xZ4 hle6;omega
         have HK6:=xZ5 hk6
         have HB6:=xZ5 hB6
         have HL6:=xZ5 hle6
         have HD6:=xZ5 hD6
         clear hk6 hB6 hle6 hD6
         by_cases hBe:B6 % 2=1
         ·have HBe:=xZ5 hBe
          go_wp2_with fail
          refine (rBit0 _ _ _ B6 _ (by omega) hNb.seg true (by rw [hBe];rfl)).mono ?_
          rintro e w8 ⟨rfl,rfl⟩
          clear hBe
          go_wp2_with fail
          refine (rCmp_any _ _ _ _ A5 _ _ B6 _ (by omega) hNa.seg (by omega) hNb.seg).mono ?_
          rintro e w8 ⟨rfl,rfl⟩
          by_cases hgt:B6 < A5
          ·obtain ⟨Z,hZ⟩:∃ Z,Z+B6=A5:=⟨A5 - B6,by omega⟩
           have HZ:=xZ5 hZ
           have hcm:=(cmp_gt0 A5 B6).2 hgt
           clear hZ hgt
           go_wp2_with fail
           refine (rSub_is _ _ _ _ A5 _ _ B6 Z _ (by omega) hNa.seg (by omega) hNb.seg HZ.out).mono ?_
           rintro e w8 ⟨a8,rfl,hn8⟩
           go_wp2_with fail
           go_roundg (B6+Z)
           case measure=>have:=HZ.out;have:=HB6.out;have:=HK.out;have:=HL5.out;have:=HL6.out;have:=HB0.out;omega
           case rel =>
            have z1:=HZ.out;have z2:=HL5.out;have z3:=HL6.out;have z4:=HAM.out;have z5:=HBM.out
            refine ⟨_,_,B6,Z,rfl,rfl,rfl,HB6.out,by omega,by omega,Or.inl HBe.out,?_,hNb.later hn8.below,hn8.back hNa.below⟩
            rw [gcd_less z1,Nat.gcd_comm,HD6.out]
          ·obtain ⟨Z,hZ⟩:∃ Z,Z+A5=B6:=⟨B6 - A5,by omega⟩
           have HZ:=xZ5 hZ
           have hcm:=mt (cmp_gt0 A5 B6).1 hgt
           clear hZ hgt
           go_wp2_with fail
           refine (rSub_is _ _ _ _ B6 _ _ A5 Z _ (by omega) hNb.seg (by omega) hNa.seg HZ.out).mono ?_
           rintro e w8 ⟨a8,rfl,hn8⟩
           go_wp2_with fail
           go_roundg (A5+Z)
           case measure=>have:=HZ.out;have:=HA5.out;have:=HK.out;have:=HL5.out;have:=HL6.out;have:=HB0.out;omega
           case rel =>
            have z1:=HZ.out;have z2:=HL5.out;have z3:=HL6.out;have z4:=HAM.out;have z5:=HBM.out
            refine ⟨_,_,A5,Z,rfl,rfl,rfl,HA5.out,by omega,by omega,Or.inl HAe.out,?_,hNa.later hn8.below,hn8.back hNa.below⟩
            rw [gcd_less z1,HD6.out]
         ·obtain ⟨B2,hB2⟩:∃ Z,B6=2*Z:=⟨B6 / 2,by omega⟩
          have HB2:=xZ5 hB2
          have HbB:Hid (decide (B6 % 2=1)=false):=decide_eq_false hBe
          clear hB2 hBe
          go_wp2_with fail
          refine (rBit0 _ _ _ B6 _ (by omega) hNb.seg false HbB.out).mono ?_
          rintro e w8 ⟨rfl,rfl⟩
          go_wp2_with fail
          refine (rHalf _ _ _ B6 B2 _ (by omega) hNb.seg HB6.out HB2.out).mono ?_
          rintro e w8 ⟨a8,rfl,hn8⟩
          go_wp2_with fail
          go_roundg B2
          case measure=>have:=HB2.out;have:=HB6.out;have:=HK6.out;omega
          case rel =>
           have z1:=HB2.out;have z2:=HB6.out;have z3:=HL6.out
           refine ⟨_,B2,rfl,rfl,by omega,by omega,?_,hNa.later hn8.below,hn8.back hNb.below⟩
           rw [←gcd_half' HAe.out,←z1,HD6.out]
       ·obtain ⟨A2,hA2⟩:∃ Z,A5=2*Z:=⟨A5 / 2,by omega⟩
        have HA2:=xZ5 hA2
        have HbA:Hid (decide (A5 % 2=1)=false):=decide_eq_false hAe
        have HBo:Hid (B % 2=1):=by rcases HO5.out with h | h;exact absurd h hAe;exact h
        clear hA2 hAe
        go_wp2_with fail
        refine (rBit0 _ _ _ A5 _ (by omega) hNa.seg false HbA.out).mono ?_
        rintro e w8 ⟨rfl,rfl⟩
        go_wp2_with fail
        refine (rHalf _ _ _ A5 A2 _ (by omega) hNa.seg HA5.out HA2.out).mono ?_
        rintro e w8 ⟨a8,rfl,hn8⟩
        go_wp2_with fail
        go_roundg A2
        case measure=>have:=HA2.out;have:=HA5.out;have:=HK5.out;omega
        case rel =>
         have z1:=HA2.out;have z2:=HA5.out;have z3:=HL5.out
         refine ⟨_,A2,rfl,rfl,by omega,by omega,Or.inr HBo.out,?_,hn8.back hNa.below,hNb.later hn8.below⟩
         rw [←gcd_half HBo.out,←z1,HD5.out]
   ·obtain ⟨A2,hA2⟩:∃ Z,A=2*Z:=⟨A / 2,by omega⟩
    obtain ⟨B2,hB2⟩:∃ Z,B=2*Z:=⟨B / 2,by omega⟩
    have HA2:=xZ5 hA2
    have HB2:=xZ5 hB2
    have HbA:Hid (decide (A % 2=1)=false):=decide_eq_false hAe
    have HbB:Hid (decide (B % 2=1)=false):=decide_eq_false hBe
    clear hA2 hB2 hAe hBe
    go_wp2_with fail
    refine (rBit0 _ _ _ A _ (by omega) hNa.seg false HbA.out).mono ?_
    rintro e w3 ⟨rfl,rfl⟩
    go_wp2_with fail
    refine (rBit0 _ _ _ B _ (by omega) hNb.seg false HbB.out).mono ?_
    rintro e w3 ⟨rfl,rfl⟩
    go_wp2_with fail
    refine (rHalf _ _ _ A A2 _ (by omega) hNa.seg HA0.out HA2.out).mono ?_
    rintro e w4 ⟨a4,rfl,hn4⟩
    go_wp2_with fail
    refine (rHalf _ _ _ B B2 _ (by omega) (hNb.later hn4.below).seg HB0.out HB2.out).mono ?_
    rintro e w5 ⟨a5,rfl,hn5⟩
    go_wp2_with fail
    go_roundg A2
    case measure=>have:=HA2.out;have:=HA0.out;have:=HK.out;omega
    case rel =>
     have h1:=HA2.out;have h2:=HB2.out;have h3:=HA0.out;have h4:=HB0.out
     refine ⟨a4,a5,A2,B2,t+1,rfl,rfl,by go_num,rfl,by omega,by omega,?_,?_,(hn4.later hn5.below).back hNa.below,hn5.back (hNb.later hn4.below).below⟩
     ·rw [←HAt.out,HA2.out,Nat.pow_succ];grind
     ·rw [←HBt.out,HB2.out,Nat.pow_succ];grind
theorem rGcd_is (ao ao2:Option Addr) (n cap X m cap2 Y G:Nat) (w:World) (hm:n≤70368744177500) (hS:Seg w ao X n) (hm2:m≤70368744177500) (hS2:Seg w ao2 Y m) (h:Nat.gcd X Y=G) :
  Calls Tryz.prog 64 #[.slice ao n cap,.slice ao2 m cap2] w fun e w'=>∃ ag,e=.returned (.slice ag (ln G) (ln G))∧New w w' ag G (ln G):=by
 have:=rGcd_any ao ao2 n cap X m cap2 Y w hm hS hm2 hS2
 rwa [h] at this
theorem positive_is (ao:Option Addr) (n cap:Nat) (w:World) :
  Calls Tryz.prog 68 #[.slice ao n cap] w fun e w'=>e=.returned (.agg #[.bool false,.slice ao n cap])∧Below w.heap.size w w':=by
 go_enter Tryz.func68,Tryz.ntmps68
 have hB:Below w.heap.size w (w.alloc (.cells #[.bool false,.slice ao n cap] 53)):=xQ2 _
 go_wp2
 refine bodyPost_ret (v:=.agg #[.bool false,.slice ao n cap]) (by rw [xQ5 rfl];go_simp) rfl ?_
 exact ⟨rfl,hB⟩
set_option maxHeartbeats 2000000 in
set_option maxRecDepth 100000 in
theorem vqNorm_zero (s:Bool) (ao:Option Addr) (n cap X:Nat) (ao2:Option Addr) (m cap2 Y:Nat) (w:World) (hm:n≤70368744177400) (hS:Seg w ao X n) (hm2:m≤70368744177400) (hS2:Seg w ao2 Y m) (h0:Y=0∨X=0) :
  Calls Tryz.prog 44 #[.agg #[.bool s,.slice ao n cap,.slice ao2 m cap2]] w fun e w'=>∃ q,e=.returned (.agg #[.bool false,.slice none 0 0,.slice q 1 1])∧New w w' q 1 1:=by
 obtain ⟨Z,hZ⟩:∃ Z,sg s X=Z:=⟨_,rfl⟩
 have hl:=xQ4 hS.1
 have hl2:=xQ4 hS2.1
 have lZ:ln (am Z)≤70368744177400:=by rw [←hZ,am_sg];omega
 have HN:=xQ1 (fun w' k=>vNorm_is s ao n cap X Z w' (by omega) k hZ)
 by_cases hY:Y=0
 ·have hb:(((ln Y:Nat):Int) == 0)=true:=by rw [hY,xX7];rfl
  clear h0 hZ hY
  go_enter Tryz.func44,Tryz.ntmps44
  go_wp2_with fail
  obtain ⟨W,hW⟩:∃ W,((w.alloc (.cells #[.bool s,.slice ao n cap,.slice ao2 m cap2] 55)).alloc (.cells #[.bool false,.slice none 0 0,.slice none 0 0] 55))=W:=⟨_,rfl⟩
  have q00:W.cell? ⟨w.heap.size,0,none⟩=some (.bool s):=by subst hW;go_simp
  have q01:W.cell? ⟨w.heap.size,1,none⟩=some (.slice ao n cap):=by subst hW;go_simp
  have q02:W.cell? ⟨w.heap.size,2,none⟩=some (.slice ao2 m cap2):=by subst hW;go_simp
  have r00:W.cell? ⟨w.heap.size+1,0,none⟩=some (.bool false):=by subst hW;go_simp
  have r01:W.cell? ⟨w.heap.size+1,1,none⟩=some (.slice none 0 0):=by subst hW;go_simp
  have r02:W.cell? ⟨w.heap.size+1,2,none⟩=some (.slice none 0 0):=by subst hW;go_simp
  have hB:Below w.heap.size w W:=by subst hW;exact (((Below.refl _ _).alloc (by (try simp only [World.size_alloc]);omega) _).alloc (by (try simp only [World.size_alloc]);omega) _)
  have hR0:Row W (w.heap.size+1):=by
   have:=xQ9 ((w.alloc (.cells #[.bool s,.slice ao n cap,.slice ao2 m cap2] 55))) #[.bool false,.slice none 0 0,.slice none 0 0] 55
   try simp only [World.size_alloc] at this
   subst hW;exact this
  have hz:W.heap.size=w.heap.size+1+1:=by subst hW;simp only [World.size_alloc]
  rw [hW]
  clear hW
  have hBW:Below W.heap.size W W:=Below.refl _ _
  refine (HN.out _ (sb hS hB hBW)).mono ?_
  rintro e w1 ⟨a1,rfl,hn⟩
  have b1:=hn.below
  replace hn:=hn.back hBW
  replace hBW:=hBW.trans (b1.mono hBW.size)
  replace q00:=xQ0 b1 q00
  replace q01:=xQ0 b1 q01
  replace q02:=xQ0 b1 q02
  replace r00:=xQ0 b1 r00
  replace r01:=xQ0 b1 r01
  replace r02:=xQ0 b1 r02
  replace hR0:=xQ3 b1 hR0
  have hsz1:=hBW.size
  have hlt1hR0:=hR0.lt
  have l100:((w1.alloc (.cells #[.bool (ng Z),.slice a1 (ln (am Z)) (ln (am Z))] 53))).cell? ⟨w1.heap.size,0,none⟩=some (.bool (ng Z)):=by go_simp
  have l101:((w1.alloc (.cells #[.bool (ng Z),.slice a1 (ln (am Z)) (ln (am Z))] 53))).cell? ⟨w1.heap.size,1,none⟩=some (.slice a1 (ln (am Z)) (ln (am Z))):=by go_simp
  have cb1:Below w1.heap.size w1 ((w1.alloc (.cells #[.bool (ng Z),.slice a1 (ln (am Z)) (ln (am Z))] 53))):=((Below.refl _ _).alloc (by (try simp only [World.size_alloc]);omega) _)
  replace hBW:=hBW.trans (cb1.mono hBW.size)
  replace q00:=xQ0 cb1 q00
  replace q01:=xQ0 cb1 q01
  replace q02:=xQ0 cb1 q02
  replace r00:=xQ0 cb1 r00
  replace r01:=xQ0 cb1 r01
  replace r02:=xQ0 cb1 r02
  replace hR0:=xQ3 cb1 hR0
  replace hn:=hn.later cb1
  have hL10:Row ((w1.alloc (.cells #[.bool (ng Z),.slice a1 (ln (am Z)) (ln (am Z))] 53))) (w1.heap.size):=by
   have:=xQ9 (w1) #[.bool (ng Z),.slice a1 (ln (am Z)) (ln (am Z))] 53
   try simp only [World.size_alloc] at this
   exact this
  go_wp2_with fail
  generalize (w1.alloc (.cells #[.bool (ng Z),.slice a1 (ln (am Z)) (ln (am Z))] 53))=w1x at q00 q01 q02 r00 r01 r02 l100 l101 hR0 hL10 hn hBW cb1 ⊢
  clear cb1
  refine (xX8 ao2 m cap2 Y _ (by omega) (sb hS2 hB hBW)).mono ?_
  rintro e w2 ⟨a2,rfl,hd⟩
  have b2:=hd.below
  replace hd:=hd.back hBW
  replace hBW:=hBW.trans (b2.mono hBW.size)
  replace q00:=xQ0 b2 q00
  replace q01:=xQ0 b2 q01
  replace q02:=xQ0 b2 q02
  replace r00:=xQ0 b2 r00
  replace r01:=xQ0 b2 r01
  replace r02:=xQ0 b2 r02
  replace l100:=xQ0 b2 l100
  replace l101:=xQ0 b2 l101
  replace hR0:=xQ3 b2 hR0
  replace hL10:=xQ3 b2 hL10
  replace hn:=hn.later b2
  have hn9:=single_new w2 1 89 1 (by omega) rfl
  have b9:=hn9.below
  replace hn9:=hn9.back hBW
  have L0:=l100
  have L1:=l101
  replace hBW:=hBW.trans (b9.mono hBW.size)
  replace q00:=xQ0 b9 q00
  replace q01:=xQ0 b9 q01
  replace q02:=xQ0 b9 q02
  replace r00:=xQ0 b9 r00
  replace r01:=xQ0 b9 r01
  replace r02:=xQ0 b9 r02
  replace l100:=xQ0 b9 l100
  replace l101:=xQ0 b9 l101
  replace hR0:=xQ3 b9 hR0
  replace hL10:=xQ3 b9 hL10
  replace hn:=hn.later b9
  replace hd:=hd.later b9
  have fz0:=fun o=>hR0.frozen o
  go_wp2
  all_goals refine bodyPost_ret (v:=.agg #[.bool false,.slice none 0 0,.slice (some ⟨w2.heap.size,0,none⟩) 1 1]) (by rw [xQ5 rfl];go_simp) rfl ?_
  all_goals exact ⟨_,rfl,hn9.mid hB (((((Mid.refl _ _ _).set _ _ (by omega) (by omega) _).set _ _ (by omega) (by omega) _).set _ _ (by omega) (by omega) _))⟩
 ·have hX:X=0:=by omega
  have hb:(((ln Y:Nat):Int) == 0)=false:=by rw [beq_eq_false_iff_ne];have:=mt ln_eq_zero.1 hY;omega
  have hb2:(((ln (am Z):Nat):Int) == 0)=true:=by rw [←hZ,am_sg,hX,xX7];rfl
  clear h0 hZ hX hY
  go_enter Tryz.func44,Tryz.ntmps44
  go_wp2_with fail
  obtain ⟨W,hW⟩:∃ W,((w.alloc (.cells #[.bool s,.slice ao n cap,.slice ao2 m cap2] 55)).alloc (.cells #[.bool false,.slice none 0 0,.slice none 0 0] 55))=W:=⟨_,rfl⟩
  have q00:W.cell? ⟨w.heap.size,0,none⟩=some (.bool s):=by subst hW;go_simp
  have q01:W.cell? ⟨w.heap.size,1,none⟩=some (.slice ao n cap):=by subst hW;go_simp
  have q02:W.cell? ⟨w.heap.size,2,none⟩=some (.slice ao2 m cap2):=by subst hW;go_simp
  have r00:W.cell? ⟨w.heap.size+1,0,none⟩=some (.bool false):=by subst hW;go_simp
  have r01:W.cell? ⟨w.heap.size+1,1,none⟩=some (.slice none 0 0):=by subst hW;go_simp
  have r02:W.cell? ⟨w.heap.size+1,2,none⟩=some (.slice none 0 0):=by subst hW;go_simp
  have hB:Below w.heap.size w W:=by subst hW;exact (((Below.refl _ _).alloc (by (try simp only [World.size_alloc]);omega) _).alloc (by (try simp only [World.size_alloc]);omega) _)
  have hR0:Row W (w.heap.size+1):=by
   have:=xQ9 ((w.alloc (.cells #[.bool s,.slice ao n cap,.slice ao2 m cap2] 55))) #[.bool false,.slice none 0 0,.slice none 0 0] 55
   try simp only [World.size_alloc] at this
   subst hW;exact this
  have hz:W.heap.size=w.heap.size+1+1:=by subst hW;simp only [World.size_alloc]
  rw [hW]
  clear hW
  have hBW:Below W.heap.size W W:=Below.refl _ _
  refine (HN.out _ (sb hS hB hBW)).mono ?_
  rintro e w1 ⟨a1,rfl,hn⟩
  have b1:=hn.below
  replace hn:=hn.back hBW
  replace hBW:=hBW.trans (b1.mono hBW.size)
  replace q00:=xQ0 b1 q00
  replace q01:=xQ0 b1 q01
  replace q02:=xQ0 b1 q02
  replace r00:=xQ0 b1 r00
  replace r01:=xQ0 b1 r01
  replace r02:=xQ0 b1 r02
  replace hR0:=xQ3 b1 hR0
  have hsz1:=hBW.size
  have hlt1hR0:=hR0.lt
  have l100:((w1.alloc (.cells #[.bool (ng Z),.slice a1 (ln (am Z)) (ln (am Z))] 53))).cell? ⟨w1.heap.size,0,none⟩=some (.bool (ng Z)):=by go_simp
  have l101:((w1.alloc (.cells #[.bool (ng Z),.slice a1 (ln (am Z)) (ln (am Z))] 53))).cell? ⟨w1.heap.size,1,none⟩=some (.slice a1 (ln (am Z)) (ln (am Z))):=by go_simp
  have cb1:Below w1.heap.size w1 ((w1.alloc (.cells #[.bool (ng Z),.slice a1 (ln (am Z)) (ln (am Z))] 53))):=((Below.refl _ _).alloc (by (try simp only [World.size_alloc]);omega) _)
  replace hBW:=hBW.trans (cb1.mono hBW.size)
  replace q00:=xQ0 cb1 q00
  replace q01:=xQ0 cb1 q01
  replace q02:=xQ0 cb1 q02
  replace r00:=xQ0 cb1 r00
  replace r01:=xQ0 cb1 r01
  replace r02:=xQ0 cb1 r02
  replace hR0:=xQ3 cb1 hR0
  replace hn:=hn.later cb1
  have hL10:Row ((w1.alloc (.cells #[.bool (ng Z),.slice a1 (ln (am Z)) (ln (am Z))] 53))) (w1.heap.size):=by
   have:=xQ9 (w1) #[.bool (ng Z),.slice a1 (ln (am Z)) (ln (am Z))] 53
   try simp only [World.size_alloc] at this
   exact this
  go_wp2_with fail
  generalize (w1.alloc (.cells #[.bool (ng Z),.slice a1 (ln (am Z)) (ln (am Z))] 53))=w1x at q00 q01 q02 r00 r01 r02 l100 l101 hR0 hL10 hn hBW cb1 ⊢
  clear cb1
  refine (xX8 ao2 m cap2 Y _ (by omega) (sb hS2 hB hBW)).mono ?_
  rintro e w2 ⟨a2,rfl,hd⟩
  have b2:=hd.below
  replace hd:=hd.back hBW
  replace hBW:=hBW.trans (b2.mono hBW.size)
  replace q00:=xQ0 b2 q00
  replace q01:=xQ0 b2 q01
  replace q02:=xQ0 b2 q02
  replace r00:=xQ0 b2 r00
  replace r01:=xQ0 b2 r01
  replace r02:=xQ0 b2 r02
  replace l100:=xQ0 b2 l100
  replace l101:=xQ0 b2 l101
  replace hR0:=xQ3 b2 hR0
  replace hL10:=xQ3 b2 hL10
  replace hn:=hn.later b2
  have hn9:=single_new w2 1 89 1 (by omega) rfl
  have b9:=hn9.below
  replace hn9:=hn9.back hBW
  have L0:=l100
  have L1:=l101
  replace hBW:=hBW.trans (b9.mono hBW.size)
  replace q00:=xQ0 b9 q00
  replace q01:=xQ0 b9 q01
  replace q02:=xQ0 b9 q02
  replace r00:=xQ0 b9 r00
  replace r01:=xQ0 b9 r01
  replace r02:=xQ0 b9 r02
  replace l100:=xQ0 b9 l100
  replace l101:=xQ0 b9 l101
  replace hR0:=xQ3 b9 hR0
  replace hL10:=xQ3 b9 hL10
  replace hn:=hn.later b9
  replace hd:=hd.later b9
  have fz0:=fun o=>hR0.frozen o
  go_wp2
  all_goals refine bodyPost_ret (v:=.agg #[.bool false,.slice none 0 0,.slice (some ⟨w2.heap.size,0,none⟩) 1 1]) (by rw [xQ5 rfl];go_simp) rfl ?_
  all_goals exact ⟨_,rfl,hn9.mid hB (((((Mid.refl _ _ _).set _ _ (by omega) (by omega) _).set _ _ (by omega) (by omega) _).set _ _ (by omega) (by omega) _))⟩
set_option maxHeartbeats 2000000 in
set_option maxRecDepth 100000 in
theorem vqNorm_nz (s:Bool) (ao:Option Addr) (n cap X:Nat) (ao2:Option Addr) (m cap2 Y P Q:Nat) (Z:Int) (w:World) (hm:n≤70368744177400) (hS:Seg w ao X n) (hm2:m≤70368744177400) (hS2:Seg w ao2 Y m) (hX:X≠0) (hY:Y≠0) (hP:X=P*Nat.gcd X Y) (hQ:Y=Q*Nat.gcd X Y) (hZ:sg s P=Z) :
  Calls Tryz.prog 44 #[.agg #[.bool s,.slice ao n cap,.slice ao2 m cap2]] w fun e w'=>∃ p q,e=.returned (.agg #[.bool (ng Z),.slice p (ln (am Z)) (ln (am Z)),.slice q (ln Q) (ln Q)])∧New w w' p (am Z) (ln (am Z))∧New w w' q Q (ln Q):=by
 have hl:=xQ4 hS.1
 have hl2:=xQ4 hS2.1
 obtain ⟨G,hG⟩:∃ G,Nat.gcd X Y=G:=⟨_,rfl⟩
 have hG0:0 < G:=by rw [←hG];exact Nat.gcd_pos_of_pos_right _ (by omega)
 have hlG:ln G≤70368744177400:=by
  have:G≤Y:=by rw [←hG];exact Nat.gcd_le_right _ (by omega)
  have:=xZ4 this;omega
 rw [hG] at hP hQ
 have hP0:P≠0:=fun e=>hX (by rw [hP,e,Nat.zero_mul])
 obtain ⟨t,ht⟩:∃ t,ng (sg s X)=t:=⟨_,rfl⟩
 have hts:ng Z=t:=by
  rw [←ht,←hZ,ng_sg,ng_sg]
  have h1:0 < ln P:=Nat.pos_of_ne_zero (mt ln_eq_zero.1 hP0)
  have h2:0 < ln X:=Nat.pos_of_ne_zero (mt ln_eq_zero.1 hX)
  simp [h1,h2]
 have haZ:am Z=P:=by rw [←hZ,am_sg]
 have hb:(((ln Y:Nat):Int) == 0)=false:=by rw [beq_eq_false_iff_ne];have:=mt ln_eq_zero.1 hY;omega
 have hb2:(((ln X:Nat):Int) == 0)=false:=by rw [beq_eq_false_iff_ne];have:=mt ln_eq_zero.1 hX;omega
 have HN':=fun w' k=>vNorm_is s ao n cap X (sg s X) w' (by omega) k rfl
 rw [am_sg,ht] at HN'
 have HN:=xQ1 HN'
 have HG:=xQ1 (fun w' p q k1 k2=>rGcd_is p q (ln X) (ln X) X (ln Y) (ln Y) Y G w' (by omega) k1 (by omega) k2 hG)
 have H1:=xQ1 (fun w' p q k1 k2=>rDiv_is p q (ln X) (ln X) X (ln G) (ln G) G P 0 w' (by omega) k1 (by omega) k2 (by omega) hG0)
 have H2:=xQ1 (fun w' p q k1 k2=>rDiv_is p q (ln Y) (ln Y) Y (ln G) (ln G) G Q 0 w' (by omega) k1 (by omega) k2 (by omega) hG0)
 rw [hts,haZ]
 obtain ⟨O,hO⟩:∃ O:Nat,0=O:=⟨_,rfl⟩
 clear hP hQ hG hG0 hZ hX hY HN' ht hts haZ hP0 hO
 go_enter Tryz.func44,Tryz.ntmps44
 go_wp2_with fail
 obtain ⟨W,hW⟩:∃ W,((w.alloc (.cells #[.bool s,.slice ao n cap,.slice ao2 m cap2] 55)).alloc (.cells #[.bool false,.slice none 0 0,.slice none 0 0] 55))=W:=⟨_,rfl⟩
 have q00:W.cell? ⟨w.heap.size,0,none⟩=some (.bool s):=by subst hW;go_simp
 have q01:W.cell? ⟨w.heap.size,1,none⟩=some (.slice ao n cap):=by subst hW;go_simp
 have q02:W.cell? ⟨w.heap.size,2,none⟩=some (.slice ao2 m cap2):=by subst hW;go_simp
 have r00:W.cell? ⟨w.heap.size+1,0,none⟩=some (.bool false):=by subst hW;go_simp
 have r01:W.cell? ⟨w.heap.size+1,1,none⟩=some (.slice none 0 0):=by subst hW;go_simp
 have r02:W.cell? ⟨w.heap.size+1,2,none⟩=some (.slice none 0 0):=by subst hW;go_simp
 have hB:Below w.heap.size w W:=by subst hW;exact (((Below.refl _ _).alloc (by (try simp only [World.size_alloc]);omega) _).alloc (by (try simp only [World.size_alloc]);omega) _)
 have hR0:Row W (w.heap.size+1):=by
  have:=xQ9 ((w.alloc (.cells #[.bool s,.slice ao n cap,.slice ao2 m cap2] 55))) #[.bool false,.slice none 0 0,.slice none 0 0] 55
  try simp only [World.size_alloc] at this
  subst hW;exact this
 have hz:W.heap.size=w.heap.size+1+1:=by subst hW;simp only [World.size_alloc]
 rw [hW]
 clear hW
 have hBW:Below W.heap.size W W:=Below.refl _ _
 refine (HN.out _ (sb hS hB hBW)).mono ?_
 rintro e w1 ⟨a1,rfl,hn⟩
 have b1:=hn.below
 replace hn:=hn.back hBW
 replace hBW:=hBW.trans (b1.mono hBW.size)
 replace q00:=xQ0 b1 q00
 replace q01:=xQ0 b1 q01
 replace q02:=xQ0 b1 q02
 replace r00:=xQ0 b1 r00
 replace r01:=xQ0 b1 r01
 replace r02:=xQ0 b1 r02
 replace hR0:=xQ3 b1 hR0
 have hsz1:=hBW.size
 have hlt1hR0:=hR0.lt
 have l100:((w1.alloc (.cells #[.bool t,.slice a1 (ln X) (ln X)] 53))).cell? ⟨w1.heap.size,0,none⟩=some (.bool t):=by go_simp
 have l101:((w1.alloc (.cells #[.bool t,.slice a1 (ln X) (ln X)] 53))).cell? ⟨w1.heap.size,1,none⟩=some (.slice a1 (ln X) (ln X)):=by go_simp
 have cb1:Below w1.heap.size w1 ((w1.alloc (.cells #[.bool t,.slice a1 (ln X) (ln X)] 53))):=((Below.refl _ _).alloc (by (try simp only [World.size_alloc]);omega) _)
 replace hBW:=hBW.trans (cb1.mono hBW.size)
 replace q00:=xQ0 cb1 q00
 replace q01:=xQ0 cb1 q01
 replace q02:=xQ0 cb1 q02
 replace r00:=xQ0 cb1 r00
 replace r01:=xQ0 cb1 r01
 replace r02:=xQ0 cb1 r02
 replace hR0:=xQ3 cb1 hR0
 replace hn:=hn.later cb1
 have hL10:Row ((w1.alloc (.cells #[.bool t,.slice a1 (ln X) (ln X)] 53))) (w1.heap.size):=by
  have:=xQ9 (w1) #[.bool t,.slice a1 (ln X) (ln X)] 53
  try simp only [World.size_alloc] at this
  exact this
 go_wp2_with fail
 generalize (w1.alloc (.cells #[.bool t,.slice a1 (ln X) (ln X)] 53))=w1x at q00 q01 q02 r00 r01 r02 l100 l101 hR0 hL10 hn hBW cb1 ⊢
 clear cb1
 refine (xX8 ao2 m cap2 Y _ (by omega) (sb hS2 hB hBW)).mono ?_
 rintro e w2 ⟨a2,rfl,hd⟩
 have b2:=hd.below
 replace hd:=hd.back hBW
 replace hBW:=hBW.trans (b2.mono hBW.size)
 replace q00:=xQ0 b2 q00
 replace q01:=xQ0 b2 q01
 replace q02:=xQ0 b2 q02
 replace r00:=xQ0 b2 r00
 replace r01:=xQ0 b2 r01
 replace r02:=xQ0 b2 r02
 replace l100:=xQ0 b2 l100
 replace l101:=xQ0 b2 l101
 replace hR0:=xQ3 b2 hR0
 replace hL10:=xQ3 b2 hL10
 replace hn:=hn.later b2
 go_wp2_with fail
 refine (HG.out _ a1 a2 hn.seg hd.seg).mono ?_
 rintro e w3 ⟨a3,rfl,hg⟩
 have b3:=hg.below
 replace hg:=hg.back hBW
 replace hBW:=hBW.trans (b3.mono hBW.size)
 replace q00:=xQ0 b3 q00
 replace q01:=xQ0 b3 q01
 replace q02:=xQ0 b3 q02
 replace r00:=xQ0 b3 r00
 replace r01:=xQ0 b3 r01
 replace r02:=xQ0 b3 r02
 replace l100:=xQ0 b3 l100
 replace l101:=xQ0 b3 l101
 replace hR0:=xQ3 b3 hR0
 replace hL10:=xQ3 b3 hL10
 replace hn:=hn.later b3
 replace hd:=hd.later b3
 go_wp2_with fail
 refine (H1.out _ a1 a3 hn.seg hg.seg).mono ?_
 rintro e w4 ⟨p4,q4,rfl,hp4,hq4⟩
 have b4:=hp4.below
 replace hp4:=hp4.back hBW
 replace hq4:=hq4.back hBW
 replace hBW:=hBW.trans (b4.mono hBW.size)
 replace q00:=xQ0 b4 q00
 replace q01:=xQ0 b4 q01
 replace q02:=xQ0 b4 q02
 replace r00:=xQ0 b4 r00
 replace r01:=xQ0 b4 r01
 replace r02:=xQ0 b4 r02
 replace l100:=xQ0 b4 l100
 replace l101:=xQ0 b4 l101
 replace hR0:=xQ3 b4 hR0
 replace hL10:=xQ3 b4 hL10
 replace hn:=hn.later b4
 replace hd:=hd.later b4
 replace hg:=hg.later b4
 go_wp2_with fail
 refine (H2.out _ a2 a3 hd.seg hg.seg).mono ?_
 rintro e w5 ⟨p5,q5,rfl,hp5,hq5⟩
 have b5:=hp5.below
 replace hp5:=hp5.back hBW
 replace hq5:=hq5.back hBW
 replace hBW:=hBW.trans (b5.mono hBW.size)
 replace q00:=xQ0 b5 q00
 replace q01:=xQ0 b5 q01
 replace q02:=xQ0 b5 q02
 replace r00:=xQ0 b5 r00
 replace r01:=xQ0 b5 r01
 replace r02:=xQ0 b5 r02
 replace l100:=xQ0 b5 l100
 replace l101:=xQ0 b5 l101
 replace hR0:=xQ3 b5 hR0
 replace hL10:=xQ3 b5 hL10
 replace hn:=hn.later b5
 replace hd:=hd.later b5
 replace hg:=hg.later b5
 replace hp4:=hp4.later b5
 replace hq4:=hq4.later b5
 have fz0:=fun o=>hR0.frozen o
 go_wp2
 all_goals refine bodyPost_ret (v:=.agg #[.bool t,.slice p4 (ln P) (ln P),.slice p5 (ln Q) (ln Q)]) (by rw [xQ5 rfl];go_simp) rfl ?_
 all_goals exact ⟨p4,p5,rfl,hp4.mid hB (((((Mid.refl _ _ _).set _ _ (by omega) (by omega) _).set _ _ (by omega) (by omega) _).set _ _ (by omega) (by omega) _)),hp5.mid hB (((((Mid.refl _ _ _).set _ _ (by omega) (by omega) _).set _ _ (by omega) (by omega) _).set _ _ (by omega) (by omega) _))⟩
theorem vqNorm_is (s:Bool) (ao:Option Addr) (n cap X:Nat) (ao2:Option Addr) (m cap2 Y V:Nat) (Z:Int) (w:World) (hm:n≤70368744177400) (hS:Seg w ao X n) (hm2:m≤70368744177400) (hS2:Seg w ao2 Y m) (hL:Low (rn s X Y) (rd Y:Nat) Z V) :
  Calls Tryz.prog 44 #[.agg #[.bool s,.slice ao n cap,.slice ao2 m cap2]] w fun e w'=>∃ p q,e=.returned (.agg #[.bool (ng Z),.slice p (ln (am Z)) (ln (am Z)),.slice q (ln V) (ln V)])∧New w w' p (am Z) (ln (am Z))∧New w w' q V (ln V):=by
 by_cases h0:Y=0∨X=0
 ·have hz:rn s X Y=0:=by
   unfold rn;split
   ·rfl
   ·rcases h0 with h | h
    ·exact absurd h (by assumption)
    ·rw [h];exact sg_zero s
  rw [hz] at hL
  obtain ⟨rfl,rfl⟩:=hL.zero
  refine (vqNorm_zero s ao n cap X ao2 m cap2 Y w hm hS hm2 hS2 h0).mono ?_
  rintro e w' ⟨q,rfl,hq⟩
  refine ⟨none,q,by rw [show ng 0=false from rfl,show am 0=0 from rfl,xX7,ln_one],?_,by rw [ln_one];exact hq⟩
  rw [show am 0=0 from rfl,xX7]
  exact New.nil _ hq.below
 ·have hY:Y≠0:=fun e=>h0 (Or.inl e)
  have hX:X≠0:=fun e=>h0 (Or.inr e)
  obtain ⟨P,Q,hP,hQ⟩:=gcd_parts X Y
  have h:=low_made s false hY rfl hP hQ
  simp only [Bool.false_eq_true,if_false] at h
  rw [rn_of hY,rd_of hY] at hL
  obtain ⟨rfl,rfl⟩:=hL.uniq h rfl
  exact vqNorm_nz s ao n cap X ao2 m cap2 Y P V _ w hm hS hm2 hS2 hX hY hP hQ rfl
theorem Low.nf {N Z:Int} {V1 V:Nat} (h:Low N (V1:Int) Z V) (h1:0 < V1):Low (rn (ng N) (am N) V1) ((rd V1:Nat):Int) Z V:=by rw [rn_nf h1,rd_nf h1];exact h
theorem low_ln {s:Bool} {X Y n m:Nat} {Z:Int} {V:Nat} (hX:X < BB ^ n) (hY:Y < BB ^ m) (h:Low (rn s X Y) ((rd Y:Nat):Int) Z V):ln (am Z)≤n∧ln V≤m+1:=by
 have h1:=h.le
 rw [am_nat] at h1
 exact ⟨xQ4 (Nat.lt_of_le_of_lt (Nat.le_trans h1.1 (rn_am s X Y)) hX),xQ4 (Nat.lt_of_le_of_lt h1.2 (rd_lt hY))⟩
theorem run_field0 (v0 v1 v2:Value) (w:World):(Instr.field 55 (.agg #[v0,v1,v2]) 0).run Tryz.prog w=.ok (.agg #[v0,v1]) w:=by kernel_rfl
set_option maxHeartbeats 4000000 in
set_option maxRecDepth 100000 in
theorem vqSign_is (s0:Bool) (a0:Option Addr) (n0 c0 X0:Nat) (b0:Option Addr) (m0 d0 Y0:Nat) (C:Int) (w:World) (hc0:n0≤c0) (hm0:n0≤70368744177300) (hS0:Seg w a0 X0 n0) (hd0:m0≤d0) (hk0:m0≤70368744177300) (hT0:Seg w b0 Y0 m0) (hC:sgn (rn s0 X0 Y0)=C) :
  Calls Tryz.prog 27 #[Value.agg #[Value.bool s0,Value.slice a0 n0 c0,Value.slice b0 m0 d0]] w fun e w'=>e=.returned (.int .i64 C)∧Below w.heap.size w w':=by
 obtain ⟨Z1,V1,h1⟩:=low_ex (rn s0 X0 Y0) (rd Y0:Nat) (rd_ne Y0)
 have l1:=low_ln hS0.1 hT0.1 h1
 have lZ:=l1.1
 have hs:sgn Z1=C:=by rw [h1.sgn (by have:=rd_pos Y0;omega)];exact hC
 have H1:=xQ1 h1
 have HS':=fun w' p k=>vSign_is (ng Z1) p (ln (am Z1)) (ln (am Z1)) (am Z1) Z1 w' (by omega) k (sg_na Z1)
 rw [hs] at HS'
 have HS:=xQ1 HS'
 have hf:=run_field0
 clear hC h1 l1 hs HS'
 go_enter Tryz.func27,Tryz.ntmps27
 go_wp2_with fail
 obtain ⟨W,hW⟩:∃ W,(w.alloc (.cells #[.bool s0,.slice a0 n0 c0,.slice b0 m0 d0] 55))=W:=⟨_,rfl⟩
 have q00:W.cell? ⟨w.heap.size,0,none⟩=some (.bool s0):=by subst hW;go_simp
 have q01:W.cell? ⟨w.heap.size,1,none⟩=some (.slice a0 n0 c0):=by subst hW;go_simp
 have q02:W.cell? ⟨w.heap.size,2,none⟩=some (.slice b0 m0 d0):=by subst hW;go_simp
 have hB:Below w.heap.size w W:=by subst hW;exact ((Below.refl _ _).alloc (by (try simp only [World.size_alloc]);omega) _)
 have hz:W.heap.size=w.heap.size+1:=by subst hW;simp only [World.size_alloc]
 rw [hW]
 clear hW
 have hBW:Below W.heap.size W W:=Below.refl _ _
 refine (vqNorm_is s0 a0 n0 c0 X0 b0 m0 d0 Y0 V1 Z1 _ (by omega) (sb hS0 hB hBW) (by omega) (sb hT0 hB hBW) H1.out).mono ?_
 rintro e w11 ⟨p11,q11,rfl,hp11,hq11⟩
 have b11:=hp11.below
 replace hp11:=hp11.back hBW
 replace hq11:=hq11.back hBW
 replace hBW:=hBW.trans (b11.mono hBW.size)
 replace q00:=xQ0 b11 q00
 replace q01:=xQ0 b11 q01
 replace q02:=xQ0 b11 q02
 go_wp2_with fail
 refine (HS.out _ p11 hp11.seg).mono ?_
 rintro e w12 ⟨rfl,b12⟩
 replace hBW:=hBW.trans (b12.mono hBW.size)
 replace q00:=xQ0 b12 q00
 replace q01:=xQ0 b12 q01
 replace q02:=xQ0 b12 q02
 replace hp11:=hp11.later b12
 replace hq11:=hq11.later b12
 go_wp2
 go_ret
 exact ⟨rfl,hB.trans (hBW.mono hB.size)⟩
end Go.Proofs.YtgfmaejhdbmkoaaGreat
