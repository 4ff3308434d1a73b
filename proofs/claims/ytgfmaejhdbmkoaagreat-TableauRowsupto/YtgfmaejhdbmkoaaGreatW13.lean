import Derived.Test.YtgfmaejhdbmkoaaGreatW5
import Derived.Test.YtgfmaejhdbmkoaaGreatW6
set_option linter.unusedSimpArgs false
namespace Go.Proofs.YtgfmaejhdbmkoaaGreat
open Go.RowKit
set_option linter.unusedVariables false
theorem hide'' {p:Prop} (h:p):Hid p:=h
set_option maxHeartbeats 4000000 in
theorem rMul_any (ao ao2:Option Addr) (n cap X m cap2 Y:Nat) (w:World) (hm:n+m≤70368744177664) (hS:Seg w ao X n) (hS2:Seg w ao2 Y m) :
  Calls Tryz.prog 69 #[.slice ao n cap,.slice ao2 m cap2] w fun e w'=>∃ ao',e=.returned (.slice ao' (ln (X*Y)) (ln (X*Y)))∧New w w' ao' (X*Y) (ln (X*Y)):=by
 go_enter Tryz.func69,Tryz.ntmps69
 go_wp2_with (at_make;refine mk_law _ rfl _ _ rfl _ (n+m) rfl rfl (by go_num) hm ?_;intro w1 hnew hrow)
 go_loopw [6] (fun v wr=>∃ i:Nat,i≤n∧v=.int .i64 i∧Wr w.heap.size 0 (0+(n+m)) w1 wr∧Seg wr (some ⟨w.heap.size,0,none⟩) (X % BB ^ i*Y) (n+m)) (fun v _=>n - (intOf v).toNat)
 case atStart=>exact ⟨0,Nat.zero_le _,rfl,Wr.refl _ _ _ _,by rw [Nat.pow_zero,Nat.mod_one,Nat.zero_mul];exact hnew.seg⟩
 case round =>
  obtain ⟨i,hi,rfl,hwr,hseg⟩:=hrel
  have hlt1:=hrow.lt
  have hB:Below w.heap.size w wr:=hnew.below.trans (hwr.below (Nat.le_refl _) hnew.below.size)
  by_cases hlt:i < n
  ·obtain ⟨C,hC⟩:∃ C,C=X % BB ^ i*Y:=⟨_,rfl⟩
   rw [←hC] at hseg
   obtain ⟨a,ha⟩:∃ a,a=dg X i:=⟨_,rfl⟩
   have ha32:a < 4294967296:=by rw [ha];exact xZ2 _ _
   obtain ⟨Z,hZ⟩:∃ Z,Z=C+a*Y*BB ^ i:=⟨_,rfl⟩
   have hZn:Z=X % BB ^ (i+1)*Y:=by rw [hZ,hC,ha,xJ9,Nat.add_mul,Nat.mul_right_comm]
   have hZdiv:Z / BB ^ i=C / BB ^ i+a*Y:=by rw [hZ,Nat.add_mul_div_right _ _ (BBp i)]
   have hClt:C / BB ^ i < BB ^ m:=by
    refine (Nat.div_lt_iff_lt_mul (BBp i)).2 ?_
    rw [hC,Nat.mul_comm (BB ^ m)]
    have h1:X % BB ^ i < BB ^ i:=Nat.mod_lt _ (BBp i)
    exact Nat.lt_of_le_of_lt (Nat.mul_le_mul_right _ (Nat.le_of_lt h1)) (Nat.mul_lt_mul_of_pos_left hS2.1 (BBp i))
   have hxs:=hS.below hB (Nat.le_refl _)
   obtain ⟨b1,o1,rfl,hb1,hcx⟩:=hxs.2 (by omega)
   have hb1w:b1 < w.heap.size:=hS.lt (by omega)
   have HZN:Hid (Z=X % BB ^ (i+1)*Y):=hZn
   have HZD:Hid (Z / BB ^ i=C / BB ^ i+a*Y):=hZdiv
   have HCL:Hid (C / BB ^ i < BB ^ m):=hClt
   have HA:Hid (a=dg X i):=ha
   have HCB:Hid (C < BB ^ (n+m)):=hseg.1
   have HZE:Hid (Z % BB ^ i=C % BB ^ i):=by show _=_;rw [hZ,Nat.add_mul_mod_self_right]
   clear hZ hZn hZdiv hClt hC ha
   go_wp2
   go_loopw [7,8] (fun vc vk wr2=>∃ k:Nat,k≤m∧vk=.int .i64 k∧vc=.int .u64 (mcy (C / BB ^ i) Y a k:Nat)∧Wr w.heap.size 0 (0+(n+m)) w1 wr2∧Seg wr2 (some ⟨w.heap.size,0,none⟩) (mix Z C (i+k)) (n+m)) (fun _ vk _=>m - (intOf vk).toNat)
   case atStart =>
    refine ⟨0,Nat.zero_le _,rfl,by rw [mcy_zero];rfl,hwr,?_⟩
    refine hseg.congr (mix_lt HCB.out (by omega)) fun j hj=>?_
    by_cases h:j < i
    ·rw [dg_mix_lo _ _ (by omega)]
     rw [←dg_mod Z j i h,HZE.out,dg_mod C j i h]
    ·rw [dg_mix_hi _ _ (by omega)]
   case round =>
    clear hwr hseg hB hxs hcx
    obtain ⟨k,hk,rfl,rfl,hwr,hseg⟩:=hrel
    have hB:Below w.heap.size w wr:=hnew.below.trans (hwr.below (Nat.le_refl _) hnew.below.size)
    have hcy:=mcy_le (a:=a) (C / BB ^ i) Y k
    by_cases hlt2:k < m
    ·have hxc:=(hS.below hB (Nat.le_refl _)).cells i hlt
     rw [←HA.out] at hxc
     obtain ⟨b2,o2,rfl,hb2,hcy2⟩:=(hS2.below hB (Nat.le_refl _)).2 (by omega)
     have hb2w:b2 < w.heap.size:=hS2.lt (by omega)
     have hcz:=hseg.cells (i+k) (by omega)
     rw [Nat.zero_add,dg_mix_hi _ _ (Nat.le_refl _),←dg_div] at hcz
     have hfz:=fun o=>(hwr.row hrow).frozen o
     have h1:=xZ2 (C / BB ^ i) k
     have h2:=xZ2 Y k
     obtain ⟨hp0,hp1⟩:=prod_int ha32 h2
     go_wp2
     go_quiet (fail)
     go_wp2
     go_roundw
     case rel =>
      have e1:=mul_dg (C / BB ^ i) Y a k
      have e2:=mul_cy (C / BB ^ i) Y a k
      have ep:((dg Y k*a:Nat):Int)=(a:Int)*((dg Y k:Nat):Int):=by rw [Int.natCast_mul,Int.mul_comm]
      have e3:dg Z (i+k)=dg (C / BB ^ i+a*Y) k:=by rw [←dg_div,HZD.out]
      refine ⟨k+1,by omega,by go_num,?_,?_,?_⟩
      ·congr 1;omega
      ·have:=(hwr.drewN (n:=nq)).setCell (0+(i+k)) (by omega) (by omega) (.int .u32 (((a:Int)*((dg Y k:Nat):Int)+((dg (C / BB ^ i) k:Nat):Int)+((mcy (C / BB ^ i) Y a k:Nat):Int)) % 4294967296))
       simpa using this
      ·have:=(hseg.drewN (q:=nq)).set (k:=i+k) (by omega) HCB.out (v:=((a:Int)*((dg Y k:Nat):Int)+((dg (C / BB ^ i) k:Nat):Int)+((mcy (C / BB ^ i) Y a k:Nat):Int)) % 4294967296) (by omega)
       rw [Nat.zero_add] at this
       exact this
     case measure=>simp [intOf];omega
    ·have hkm:k=m:=by omega
     subst hkm
     have hcz:=hseg.cells (i+k) (by omega)
     rw [Nat.zero_add] at hcz
     have hfz:=fun o=>(hwr.row hrow).frozen o
     have hc32:mcy (C / BB ^ i) Y a k < 4294967296:=by omega
     go_wp2
     go_roundw
     case rel =>
      have e:=mcy_end (a:=a) HCL.out hS2.1
      have e3:dg Z (i+k)=mcy (C / BB ^ i) Y a k:=by
       rw [←dg_div,HZD.out,dg,←e,Nat.mod_eq_of_lt (Nat.lt_of_lt_of_eq hc32 BB_eq.symm)]
      refine ⟨i+1,by omega,by go_num,?_,?_⟩
      ·have:=hwr.setCell (0+(i+k)) (by omega) (by omega) (.int .u32 (mcy (C / BB ^ i) Y a k:Nat))
       simpa using this
      ·have:=hseg.set (k:=i+k) (by omega) HCB.out (v:=(mcy (C / BB ^ i) Y a k:Nat)) (by rw [e3])
       rw [Nat.zero_add] at this
       have hCs:C < BB ^ (i+k+1):=by
        have:=(Nat.div_lt_iff_lt_mul (BBp i)).1 HCL.out
        rw [←Nat.pow_add] at this
        exact Nat.lt_of_lt_of_le this (xX4 (by omega))
       have hZs:Z < BB ^ (i+k+1):=by
        rw [HZN.out,show i+k+1=i+1+k by omega,Nat.pow_add BB (i+1) k]
        have h1:X % BB ^ (i+1) < BB ^ (i+1):=Nat.mod_lt _ (BBp _)
        exact Nat.lt_of_le_of_lt (Nat.mul_le_mul_right _ (Nat.le_of_lt h1)) (Nat.mul_lt_mul_of_pos_left hS2.1 (BBp _))
       rw [mix_full hCs hZs,HZN.out] at this
       exact this
     case measure=>simp [intOf];omega
  ·have hin:i=n:=by omega
   subst hin
   rw [Nat.mod_eq_of_lt hS.1] at hseg
   go_wp2_with fail
   refine (xX8 _ _ _ (X*Y) _ (by omega) hseg).mono ?_
   rintro e w2 ⟨a2,rfl,hn2⟩
   go_wp2
   go_ret
   exact ⟨_,rfl,hn2.back hB⟩
def tw (X:Nat) (d:Bool):Nat:=2*X+(if d then 1 else 0)
def tcy (X:Nat) (d:Bool) (k:Nat):Nat:=(2*(X % BB ^ k)+(if d then 1 else 0)) / BB ^ k
theorem tcy_le (X:Nat) (d:Bool) (k:Nat):tcy X d k≤1:=by
 unfold tcy
 have h1:X % BB ^ k < BB ^ k:=Nat.mod_lt _ (BBp k)
 have:(2*(X % BB ^ k)+(if d then 1 else 0)) / BB ^ k < 2:=(Nat.div_lt_iff_lt_mul (BBp k)).2 (by split <;> omega)
 omega
theorem tw_split (X:Nat) (d:Bool) (k:Nat):tw X d / BB ^ k=2*(X / BB ^ k)+tcy X d k:=by
 have h1:=xZ8 X k
 have h3:tw X d=BB ^ k*(2*(X / BB ^ k))+(2*(X % BB ^ k)+(if d then 1 else 0)):=by
  have e:BB ^ k*(2*(X / BB ^ k))=2*(X / BB ^ k*BB ^ k):=by ac_rfl
  unfold tw;rw [e];omega
 rw [h3,Nat.mul_add_div (BBp k)];rfl
theorem tw_dg (X:Nat) (d:Bool) (k:Nat):(2*dg X k+tcy X d k) % 4294967296=dg (tw X d) k:=by
 rw [←BB_eq,show dg (tw X d) k=(tw X d / BB ^ k) % BB from rfl,tw_split]
 unfold dg
 have:=Nat.div_add_mod (X / BB ^ k) BB
 generalize X / BB ^ k=x at *
 have e:2*x+tcy X d k=2*(x % BB)+tcy X d k+BB*(2*(x / BB)):=by
  have e1:BB*(2*(x / BB))=2*(BB*(x / BB)):=by ac_rfl
  rw [e1];omega
 rw [e,Nat.add_mul_mod_self_left]
theorem tw_cy (X:Nat) (d:Bool) (k:Nat):dg X k / 2147483648=tcy X d (k+1):=by
 have h:=tw_split X d (k+1)
 have h2:=tw_split X d k
 have e1:=xJ5 (tw X d) k
 have e2:=xJ5 X k
 have hd:=xZ2 X k
 have hz:=xZ2 (tw X d) k
 have hc:=tcy_le X d k
 have hc2:=tcy_le X d (k+1)
 rw [h2,e2,h] at e1
 rw [BB_eq] at e1
 have e3:2*(X / 4294967296 ^ (k+1)*4294967296+dg X k)+tcy X d k=(2*(X / 4294967296 ^ (k+1))+tcy X d (k+1))*4294967296+dg (tw X d) k:=e1
 generalize X / 4294967296 ^ (k+1)=q at *
 omega
theorem twice_or {x c:Nat} (hx:x < 4294967296) (hc:c≤1):bits BinOp.or IntKind.u32 ((x:Int)*2 % 4294967296) (c:Int)=(((2*x+c) % 4294967296:Nat):Int):=by
 have e:(x:Int)*2 % 4294967296=((2*x % 4294967296:Nat):Int):=by omega
 rw [e,u32_or_nat _ _ (by omega) (by omega),nat_join 1 _ _ (by omega) (by omega)]
 congr 1;omega
set_option maxHeartbeats 4000000 in
theorem twice_any (ao:Option Addr) (n cap X:Nat) (d:Bool) (w:World) (hm:n≤70368744177663) (hS:Seg w ao X n) :
  Calls Tryz.prog 86 #[.slice ao n cap,.bool d] w fun e w'=>∃ ao',e=.returned (.slice ao' (ln (tw X d)) (ln (tw X d)))∧New w w' ao' (tw X d) (ln (tw X d)):=by
 have hTB:tw X d < BB ^ (n+1):=by
  have h:=hS.1
  rw [xQ7,BB_eq]
  rw [BB_eq] at h
  unfold tw;split <;> omega
 have hend:dg (tw X d) n=tcy X d n:=by
  have h:=tw_split X d n
  rw [div_big hS.1,Nat.mul_zero,Nat.zero_add] at h
  have:=tcy_le X d n
  rw [dg,h,Nat.mod_eq_of_lt (by rw [show BB=4294967296 from rfl];omega)]
 have h0:tcy X d 0=(if d then 1 else 0):=by unfold tcy;simp [Nat.mod_one]
 have f1:=tw_dg X d
 have f2:=tw_cy X d
 have f3:=tcy_le X d
 generalize tw X d=T at *
 generalize tcy X d=tc at *
 have HT:=hide'' hTB
 have HE:=hide'' hend
 have F1:=hide'' f1
 have F2:=hide'' f2
 have F3:=hide'' f3
 clear hTB hend f1 f2 f3
 cases d
 all_goals
  simp only [Bool.false_eq_true,if_false,if_true] at h0
  have H0:=hide'' h0
  clear h0
  go_enter Tryz.func86,Tryz.ntmps86
  go_wp2_with (at_make;refine mk_law _ rfl _ _ rfl _ (n+1) rfl rfl (by go_num) (by omega) ?_;intro w1 hnew hrow)
  go_loopw [6,7] (fun c i wr=>∃ k:Nat,k≤n∧i=.int .i64 k∧c=.int .u32 (tc k:Nat)∧Wr w.heap.size 0 (0+(n+1)) w1 wr∧Seg wr (some ⟨w.heap.size,0,none⟩) (mix T 0 k) (n+1)) (fun _ i _=>n - (intOf i).toNat)
  case atStart=>exact ⟨0,Nat.zero_le _,rfl,by rw [H0.out];rfl,Wr.refl _ _ _ _,by rw [mix_zero];exact hnew.seg⟩
  case round =>
   obtain ⟨k,hk,rfl,rfl,hwr,hseg⟩:=hrel
   have hlt1:=hrow.lt
   have hB:Below w.heap.size w wr:=hnew.below.trans (hwr.below (Nat.le_refl _) hnew.below.size)
   have hfz:=fun o=>(hwr.row hrow).frozen o
   have hc1:=F3.out k
   by_cases hlt:k < n
   ·have hcx:=hseg.rest k (Nat.le_refl _) (by omega)
    rw [Nat.zero_add] at hcx
    obtain ⟨b2,o2,rfl,hb2,hcell⟩:=(hS.below hB (Nat.le_refl _)).2 (by omega)
    have hb2w:b2 < w.heap.size:=hS.lt (by omega)
    have hx:=xZ2 X k
    have OR:=hide'' (twice_or hx hc1)
    go_wp2
    go_roundw
    case rel =>
     have e1:=F1.out k
     have e2:=F2.out k
     refine ⟨k+1,by omega,by go_num,?_,?_,?_⟩
     ·congr 1;omega
     ·have:=hwr.setCell (0+k) (by omega) (by omega) (.int .u32 (bits BinOp.or IntKind.u32 (((dg X k:Nat):Int)*2 % 4294967296) ((tc k:Nat):Int)))
      simpa using this
     ·have:=hseg.set (by omega) (BBp _) (v:=bits BinOp.or IntKind.u32 (((dg X k:Nat):Int)*2 % 4294967296) ((tc k:Nat):Int)) (by rw [OR.out,e1])
      rw [Nat.zero_add] at this
      exact this
    case measure=>simp [intOf];omega
   ·have hkn:k=n:=by omega
    subst hkn
    have hcx:=hseg.rest k (Nat.le_refl _) (by omega)
    rw [Nat.zero_add] at hcx
    go_wp2_with fail
    have hs2:Seg (wr.setCell ⟨w.heap.size,k,none⟩ (.int .u32 (tc k:Nat))) (some ⟨w.heap.size,0,none⟩) T (k+1):=by
     have:=hseg.set (by omega) (BBp _) (v:=(tc k:Nat)) (by rw [HE.out])
     rwa [Nat.zero_add,mix_nought HT.out] at this
    have hB2:Below w.heap.size w (wr.setCell ⟨w.heap.size,k,none⟩ (.int .u32 (tc k:Nat))):=hB.setCell (Nat.le_refl _) _
    refine (xX8 _ _ _ T _ (by omega) hs2).mono ?_
    rintro e w4 ⟨a4,rfl,hn4⟩
    go_wp2
    go_ret
    exact ⟨_,rfl,hn4.back hB2⟩
theorem Seg.setOther1 {w:World} {ao:Option Addr} {X n g o:Nat} {u:Value} (h:Seg w ao X n) (hne:∀ o,ao≠some ⟨g,o,none⟩):Seg (w.setCell ⟨g,o,none⟩ u) ao X n :=
 h.wr ((Wr.refl g 0 (o+1) w).setCell o (by omega) (by omega) u) hne
theorem Seg.setOther2 {w:World} {b off X n g o:Nat} {u:Value} (h:Seg w (some ⟨b,off,none⟩) X n) (hne:b≠g):Seg (w.setCell ⟨g,o,none⟩ u) (some ⟨b,off,none⟩) X n :=
 h.setOther1 (fun o' e=>by simp only [Option.some.injEq,Addr.mk.injEq] at e;exact hne e.1)
theorem half_step' (n k:Nat):n / 2 ^ k=2*(n / 2 ^ (k+1))+bt n k:=by
 unfold bt
 rw [Nat.pow_succ,←Nat.div_div_eq_div_mul]
 have:=Nat.div_add_mod (n / 2 ^ k) 2
 omega
set_option maxRecDepth 30000 in
theorem sl_end (ao:Option Addr) (n:Nat) (L:Int) (hL:L=(n:Int)) (w:World) :
  (Instr.slice 51 (.slice ao n n) (some (.int .i64 L)) none none).run Tryz.prog w=.ok (.slice ao 0 0) w:=by
 subst hL
 rw [run_slice_l (P:=Tryz.prog) w 51 _ n n xZ6 .i64 _ (by omega) (by omega)]
 have es:(sizeOf (Tryz.prog.elem 51)).run Tryz.prog w=.ok 1 w:=by kernel_rfl
 rw [es]
 simp only [Result.andThen,sliced,Int.toNat_natCast]
 rw [if_pos trivial,Nat.sub_self]
def hib (Q k:Nat):Nat:=Q / 2 ^ k*2 ^ k
theorem hib_step (Q k:Nat):hib Q k=hib Q (k+1)+bt Q k*2 ^ k:=by
 unfold hib bt
 have e:Q / 2 ^ (k+1)=Q / 2 ^ k / 2:=by rw [Nat.pow_succ,Nat.div_div_eq_div_mul]
 rw [e,Nat.pow_succ]
 have:=Nat.div_add_mod (Q / 2 ^ k) 2
 generalize Q / 2 ^ k=x at *
 have e2:x / 2*(2 ^ k*2)=2*(x / 2)*2 ^ k:=by ac_rfl
 rw [e2,←Nat.add_mul,this]
theorem put_add {Q p t:Nat} (h:dg Q p+t < 4294967296):put Q p 1 (dg Q p+t)=Q+t*BB ^ p:=by
 unfold put
 have h1:=xZ8 Q (p+1)
 have h2:=xJ9 Q p
 rw [h2] at h1
 rw [Nat.add_mul]
 omega
theorem hib_dg {Q j:Nat}:dg (hib Q (j+1)) (j / 32) % 2 ^ (j % 32+1)=0:=by
 have hs:j % 32 < 32:=Nat.mod_lt _ (by omega)
 unfold hib dg
 have e1:(2:Nat) ^ (j+1)=2 ^ (j % 32+1)*BB ^ (j / 32):=by
  rw [BB_two,←Nat.pow_add];congr 1;omega
 rw [e1,←Nat.mul_assoc,Nat.mul_div_cancel _ (BBp _)]
 have e2:BB=2 ^ (j % 32+1)*2 ^ (31 - j % 32):=by rw [←Nat.pow_add,BB_eq,show j % 32+1+(31 - j % 32)=32 by omega]
 rw [e2,Nat.mod_mul_right_mod,Nat.mul_mod_left]
theorem hib_room {c s:Nat} (hc:c < 4294967296) (hs:s < 32) (hz:c % 2 ^ (s+1)=0):c+2 ^ s < 4294967296:=by
 have e2:(4294967296:Nat)=2 ^ (s+1)*2 ^ (31 - s):=by rw [←Nat.pow_add,show s+1+(31 - s)=32 by omega]
 have hp:=Nat.two_pow_pos s
 have h1:=Nat.div_add_mod c (2 ^ (s+1))
 rw [hz,Nat.add_zero] at h1
 have h2:c / 2 ^ (s+1) < 2 ^ (31 - s):=(Nat.div_lt_iff_lt_mul (Nat.two_pow_pos _)).2 (by rw [Nat.mul_comm,←e2];exact hc)
 have h3:2 ^ (s+1)*(c / 2 ^ (s+1)+1)≤2 ^ (s+1)*2 ^ (31 - s):=Nat.mul_le_mul_left _ h2
 rw [←e2,Nat.mul_add,h1,Nat.mul_one,Nat.pow_succ] at h3
 omega
theorem hib_or {c s:Nat} (hc:c < 4294967296) (hs:s < 32) (hz:c % 2 ^ (s+1)=0) :
  bits BinOp.or IntKind.u32 (c:Int) (2 ^ s % 4294967296)=((c+2 ^ s:Nat):Int):=by
 have h1:=hib_room hc hs hz
 have h3:(2:Int) ^ s % 4294967296=2 ^ s:=by
  rw [show (2:Int) ^ s=((2 ^ s:Nat):Int) by simp];omega
 rw [h3]
 have h2:(2:Nat) ^ s < 2 ^ (s+1):=Nat.pow_lt_pow_right (by omega) (by omega)
 rw [show (2:Int) ^ s=((2 ^ s:Nat):Int) by simp,u32_or_nat _ _ hc (by omega),nat_join (s+1) _ _ hz h2]
theorem div_bit {A Y j:Nat} (hY:0 < Y):tw (A / 2 ^ (j+1) % Y) (decide (bt A j=1)) / Y=bt (A / Y) j∧tw (A / 2 ^ (j+1) % Y) (decide (bt A j=1)) % Y=A / 2 ^ j % Y∧tw (A / 2 ^ (j+1) % Y) (decide (bt A j=1)) < 2*Y:=by
 have hb:bt A j < 2:=Nat.mod_lt _ (by omega)
 have hst:=half_step' A j
 have htw:tw (A / 2 ^ (j+1) % Y) (decide (bt A j=1))=2*(A / 2 ^ (j+1) % Y)+bt A j:=by
  unfold tw
  by_cases h:bt A j=1
  ·simp [h]
  ·have:bt A j=0:=by omega
   simp [this]
 rw [htw]
 have hdm:=Nat.div_add_mod (A / 2 ^ (j+1)) Y
 have hlt:A / 2 ^ (j+1) % Y < Y:=Nat.mod_lt _ hY
 have hq:A / Y / 2 ^ j=A / 2 ^ j / Y:=by rw [Nat.div_div_eq_div_mul,Nat.div_div_eq_div_mul,Nat.mul_comm]
 have key:A / 2 ^ j=Y*(2*(A / 2 ^ (j+1) / Y))+(2*(A / 2 ^ (j+1) % Y)+bt A j):=by
  have e:Y*(2*(A / 2 ^ (j+1) / Y))=2*(Y*(A / 2 ^ (j+1) / Y)):=by ac_rfl
  rw [hst,e];omega
 have hr2:2*(A / 2 ^ (j+1) % Y)+bt A j < 2*Y:=by omega
 refine ⟨?_,?_,hr2⟩
 ·rw [show bt (A / Y) j=A / Y / 2 ^ j % 2 from rfl,hq,key,Nat.mul_add_div hY]
  generalize 2*(A / 2 ^ (j+1) % Y)+bt A j=r at *
  have hr:r / Y < 2:=(Nat.div_lt_iff_lt_mul hY).2 hr2
  generalize r / Y=x at *
  omega
 ·rw [key,Nat.mul_add_mod]
set_option maxHeartbeats 8000000 in
theorem rDiv_any (ao ao2:Option Addr) (n cap X m cap2 Y:Nat) (w:World) (hm:n≤70368744177660) (hS:Seg w ao X n) (hm2:m≤70368744177660) (hS2:Seg w ao2 Y m) (hY0:Y≠0) :
  Calls Tryz.prog 65 #[.slice ao n cap,.slice ao2 m cap2] w fun e w'=>∃ aq ar,e=.returned (.tuple #[.slice aq (ln (X / Y)) (ln (X / Y)),.slice ar (ln (X % Y)) (ln (X % Y)),.int .i64 0])∧New w w' aq (X / Y) (ln (X / Y))∧New w w' ar (X % Y) (ln (X % Y)):=by
 have hl:=xQ4 hS.1
 have hl2:=xQ4 hS2.1
 obtain ⟨d,hd⟩:∃ d,ln Y=d+1:=⟨ln Y - 1,by have:=mt ln_eq_zero.1 hY0;omega⟩
 have HYl:Hid (BB ^ d≤Y):=by have:=ln_le hY0;rw [hd,Nat.add_sub_cancel] at this;exact this
 have HY0:Hid (0 < Y):=Nat.pos_of_ne_zero hY0
 have RN:=xX8 ao2 m cap2 Y w (by omega) hS2
 rw [hd] at RN hl2
 have HRN:=hide'' RN
 clear hY0 hd RN
 have key:∀ h,h≤ln X→h≤d→X / 2 ^ (32*(ln X - h)) < Y∧X / 2 ^ (32*(ln X - h))=X / BB ^ (ln X - h):=by
  intro h hh1 hh2
  have hp2:(2:Nat) ^ (32*(ln X - h))=BB ^ (ln X - h):=(BB_two _).symm
  refine ⟨?_,by rw [hp2]⟩
  rw [hp2]
  refine Nat.lt_of_lt_of_le ?_ HYl.out
  refine Nat.lt_of_lt_of_le (m:=BB ^ h) ?_ (xX4 hh2)
  refine (Nat.div_lt_iff_lt_mul (BBp _)).2 ?_
  rw [←Nat.pow_add,Nat.add_sub_cancel' hh1]
  exact xJ3 X
 by_cases hc:ln X < d
 ·have HXY:Hid (X < Y):=Nat.lt_of_lt_of_le (Nat.lt_of_lt_of_le (xJ3 X) (xX4 (by omega))) HYl.out
  clear key
  go_enter Tryz.func65,Tryz.ntmps65
  go_wp2_with fail
  refine HRN.out.mono ?_
  clear HRN
  rintro e w1 ⟨a1,rfl,hn1⟩
  go_wp2_with fail
  refine (xX8 _ _ _ X _ (by omega) (hS.below hn1.below (Nat.le_refl _))).mono ?_
  rintro e w2 ⟨a2,rfl,hn2⟩
  go_wp2_with (at_make;refine mk_law _ rfl _ _ rfl _ (ln X) rfl rfl rfl (by omega) ?_;intro w3 hnew3 hrow3)
  have hX3:=hn2.seg.below hnew3.below (Nat.le_refl _)
  have hB3:Below w.heap.size w w3:=hn1.below.trans ((hn2.below.mono hn1.below.size).trans (hnew3.below.mono (Nat.le_trans hn1.below.size hn2.below.size)))
  refine (xX8 _ _ _ X _ (by omega) hX3).mono ?_
  rintro e w4 ⟨a4,rfl,hn4⟩
  go_wp2_with fail
  go_loop [9,10] (fun v i=>v=.slice a4 (ln X) (ln X)∧i=.int .i64 (-1)) (fun _ _=>0)
  case atStart=>exact ⟨rfl,rfl⟩
  case round =>
   obtain ⟨rfl,rfl⟩:=hrel
   have hB4:=hB3.trans (hn4.below.mono hB3.size)
   go_wp2_with fail
   refine (xX8 _ _ _ 0 _ (by omega) (hnew3.seg.below hn4.below (Nat.le_refl _))).mono ?_
   rintro e w5 ⟨a5,rfl,hn5⟩
   go_wp2
   go_ret3
   have e1:X / Y=0:=Nat.div_eq_of_lt HXY.out
   have e2:X % Y=X:=Nat.mod_eq_of_lt HXY.out
   rw [e1,e2]
   exact ⟨_,_,rfl,hn5.back hB4,(hn4.back hB3).later hn5.below⟩
 ·have HT:=hide'' (key d (by omega) (Nat.le_refl _))
  clear key
  go_enter Tryz.func65,Tryz.ntmps65
  go_wp2_with fail
  refine HRN.out.mono ?_
  clear HRN
  rintro e w1 ⟨a1,rfl,hn1⟩
  go_wp2_with fail
  refine (xX8 _ _ _ X _ (by omega) (hS.below hn1.below (Nat.le_refl _))).mono ?_
  rintro e w2 ⟨a2,rfl,hn2⟩
  have hsl:∃ a3,(∀ W,(Instr.slice 51 (.slice a2 (ln X) (ln X)) (some (.int .i64 ((ln X:Int) - (d:Int)))) none none).run Tryz.prog W=.ok (.slice a3 d d) W)∧(∀ W,Seg W a2 X (ln X)→Seg W a3 (X / BB ^ (ln X - d)) d):=by
   by_cases hd0:d=0
   ·subst hd0
    refine ⟨a2,fun W=>sl_end a2 (ln X) _ (by omega) W,fun W _=>?_⟩
    rw [Nat.sub_zero,div_big (xJ3 X)];exact Seg.nil _ _
   ·obtain ⟨b2,o2,rfl,_,_⟩:=hn2.fresh (by omega)
    refine ⟨some ⟨b2,o2+(ln X - d),none⟩,fun W=>?_,fun W hW=>?_⟩
    ·have:=sl_l b2 o2 (ln X) (ln X) (ln X - d) ((ln X:Int) - (d:Int)) (by omega) (by omega) (by omega) W
     rwa [show ln X - (ln X - d)=d by omega] at this
    ·have:=hW.drop (ln X - d) (by omega)
     rwa [show ln X - (ln X - d)=d by omega] at this
  obtain ⟨a3,hsr,hss⟩:=hsl
  have HSS:=hide'' hss
  clear hss
  go_wp2_with (at_make;refine mk_law _ rfl _ _ rfl _ (ln X) rfl rfl rfl (by omega) ?_;intro w3 hnew3 hrow3)
  clear hsr
  have hX3:=hn2.seg.below hnew3.below (Nat.le_refl _)
  have hB3:Below w.heap.size w w3:=hn1.below.trans ((hn2.below.mono hn1.below.size).trans (hnew3.below.mono (Nat.le_trans hn1.below.size hn2.below.size)))
  refine (xX8 _ _ _ (X / BB ^ (ln X - d)) _ (by omega) (HSS.out _ hX3)).mono ?_
  rintro e w4 ⟨a4,rfl,hn4⟩
  have hB4:=hB3.trans (hn4.below.mono hB3.size)
  have hgq:w.heap.size≤w2.heap.size:=Nat.le_trans hn1.below.size hn2.below.size
  have hq4:=hnew3.seg.below hn4.below (Nat.le_refl _)
  have hrq4:=hrow3.below hn4.below hrow3.lt
  have hX4:=hX3.below hn4.below (Nat.le_refl _)
  have hY4:=((hn1.seg.below hn2.below (Nat.le_refl _)).below hnew3.below (Nat.le_refl _)).below hn4.below (Nat.le_refl _)
  have hne1:∀ o,a1≠some ⟨w2.heap.size,o,none⟩:=(hn1.seg.below hn2.below (Nat.le_refl _)).ne_new (by omega) (Nat.le_refl _)
  have hlt4:w2.heap.size < w4.heap.size:=Nat.lt_of_lt_of_le hrow3.lt hn4.below.size
  have hR4:=hn4.back hB3
  have HX0:Hid (0 < ln X→∀ o,a2≠some ⟨w2.heap.size,o,none⟩):=fun h=>hn2.seg.ne_new h (Nat.le_refl _)
  obtain ⟨Q,hQ⟩:∃ Q,Q=X / Y:=⟨_,rfl⟩
  have HQ:Hid (Q=X / Y):=hQ
  have HQL:Hid (Q < BB ^ ln X):=by show _ < _;rw [hQ];exact Nat.lt_of_le_of_lt (Nat.div_le_self _ _) (xJ3 X)
  clear hQ
  clear hn1 hn2 hnew3 hrow3 hn4 hX3 hB3
  go_wp2_with fail
  go_loopw [9,10] (fun v i wr=>∃ k ar,k≤32*(ln X - d)∧i=.int .i64 ((k:Int) - 1)∧v=.slice ar (ln (X / 2 ^ k % Y)) (ln (X / 2 ^ k % Y))∧w2.heap.size < wr.heap.size∧New w wr ar (X / 2 ^ k % Y) (ln (X / 2 ^ k % Y))∧Row wr w2.heap.size∧Seg wr (some ⟨w2.heap.size,0,none⟩) (hib Q k) (ln X)∧Seg wr a1 Y (d+1)∧Seg wr a2 X (ln X)) (fun _ i _=>(intOf i+1).toNat)
  case atStart =>
   have h1:=HT.out
   have e0:X / BB ^ (ln X - d)=X / 2 ^ (32*(ln X - d)) % Y:=by rw [Nat.mod_eq_of_lt h1.1,h1.2]
   refine ⟨32*(ln X - d),a4,Nat.le_refl _,by go_num,by rw [←e0],hlt4,by rw [←e0];exact hR4,hrq4,?_,hY4,hX4⟩
   have e1:hib Q (32*(ln X - d))=0:=by
    have e2:X / Y / 2 ^ (32*(ln X - d))=0:=by rw [Nat.div_div_eq_div_mul,Nat.mul_comm Y,←Nat.div_div_eq_div_mul,Nat.div_eq_of_lt h1.1]
    unfold hib
    rw [HQ.out,e2,Nat.zero_mul]
   rw [e1];exact hq4
  case round =>
   clear hB4 hq4 hrq4 hX4 hY4 hlt4 hR4
   obtain ⟨k,ar,hk,rfl,rfl,hlt4,hR,hrq,hsq,hY,hX⟩:=hrel
   by_cases hlt:0 < k
   ·obtain ⟨j,rfl⟩:∃ j,k=j+1:=⟨k - 1,by omega⟩
    have hcast:((j+1:Nat):Int) - 1=(j:Nat):=by omega
    rw [hcast]
    have hbb:bitB X (j:Int)=decide (bt X j=1):=by unfold bitB;rw [Int.toNat_natCast];simp
    have hdb:=div_bit (A:=X) (j:=j) HY0.out
    rw [←hbb] at hdb
    obtain ⟨R,hRe⟩:∃ R,R=X / 2 ^ (j+1) % Y:=⟨_,rfl⟩
    rw [←hRe] at hdb hR ⊢
    obtain ⟨bb,hbe⟩:∃ b,b=bitB X (j:Int):=⟨_,rfl⟩
    rw [←hbe] at hdb
    have HBE:Hid (bitB X (j:Int)=bb):=hbe.symm
    obtain ⟨Tt,hTe⟩:∃ T,T=tw R bb:=⟨_,rfl⟩
    rw [←hTe] at hdb
    have HTE:Hid (tw R bb=Tt):=hTe.symm
    have HDB:=hide'' hdb
    have lR:ln R≤70368744177660:=by
     have h1:R < BB ^ (d+1):=by rw [hRe];exact Nat.lt_trans (Nat.mod_lt _ HY0.out) hY.1
     have:=xQ4 h1;omega
    have hTl:ln Tt≤70368744177662:=by
     have h1:Tt < BB ^ (d+1+1):=by
      have h2:=hdb.2.2
      have h3:=hY.1
      rw [xQ7,BB_eq]
      rw [BB_eq] at h3
      omega
     have:=xQ4 h1;omega
    clear hbb hdb hRe hbe hTe
    go_wp2_with fail
    refine (rBit_any _ _ _ X _ _ (by omega) (by omega) (by omega) hX).mono ?_
    rintro e w5 ⟨rfl,rfl⟩
    rw [HBE.out]
    go_wp2_with fail
    have TW:=twice_any ar (ln R) (ln R) R bb wr (by omega) hR.seg
    rw [HTE.out] at TW
    refine TW.mono ?_
    clear TW
    rintro e w5 ⟨a5,rfl,hn5⟩
    have hB5:=hR.below.trans (hn5.below.mono hR.below.size)
    have hY5:=hY.below hn5.below (Nat.le_refl _)
    have hX5:=hX.below hn5.below (Nat.le_refl _)
    have hq5:=hsq.below hn5.below (Nat.le_refl _)
    have hrq5:=hrq.below hn5.below hlt4
    have hlt5:w2.heap.size < w5.heap.size:=Nat.lt_of_lt_of_le hlt4 hn5.below.size
    by_cases hTY:Tt < Y
    ·have hcm:¬ 0≤cmpI Tt Y:=by rw [cmpI_lt hTY];omega
     have FIN:Hid (Tt=X / 2 ^ j % Y∧hib Q (j+1)=hib Q j):=by
      have h1:=HDB.out
      refine ⟨by rw [←h1.2.1,Nat.mod_eq_of_lt hTY],?_⟩
      have h2:=h1.1
      rw [Nat.div_eq_of_lt hTY] at h2
      rw [hib_step Q j,HQ.out,←h2];simp
     clear hTY
     go_wp2_with fail
     refine (rCmp_any _ _ _ _ Tt _ _ Y _ (by omega) hn5.seg (by omega) hY5).mono ?_
     rintro e w6 ⟨rfl,rfl⟩
     go_wp2
     go_roundw
     case rel=>exact ⟨j,a5,by omega,by go_num,by rw [←FIN.out.1],hlt5,by rw [←FIN.out.1];exact hn5.back hR.below,hrq5,by rw [←FIN.out.2];exact hq5,hY5,hX5⟩
     case measure=>simp [intOf]
    ·have hcm:0≤cmpI Tt Y:=by unfold cmpI;rw [if_neg hTY];split <;> omega
     have HLE:Hid (Y≤Tt):=Nat.le_of_not_lt hTY
     have FIN:Hid (Tt - Y=X / 2 ^ j % Y∧hib Q j=hib Q (j+1)+2 ^ j):=by
      have h1:=HDB.out
      have hdiv:Tt / Y=1:=Nat.div_eq_of_lt_le (by omega) (by omega)
      have hmod:Tt % Y=Tt - Y:=by
       have:=Nat.div_add_mod Tt Y;rw [hdiv,Nat.mul_one] at this;omega
      refine ⟨by rw [←h1.2.1,hmod],?_⟩
      have h2:=h1.1
      rw [hdiv] at h2
      rw [hib_step Q j,HQ.out,←h2];simp
     clear hTY
     have hjX:j / 32 < ln X:=by omega
     obtain ⟨c,hc'⟩:∃ c,c=dg (hib Q (j+1)) (j / 32):=⟨_,rfl⟩
     have hc32:c < 4294967296:=by rw [hc'];exact xZ2 _ _
     have hcz:c % 2 ^ (j % 32+1)=0:=by rw [hc'];exact hib_dg
     have hroom:=hib_room hc32 (Nat.mod_lt _ (by omega)) hcz
     have OR:=hide'' (hib_or hc32 (Nat.mod_lt j (by omega)) hcz)
     have HC:=hide'' hc'
     have HRM:=hide'' hroom
     go_wp2_with fail
     refine (rCmp_any _ _ _ _ Tt _ _ Y _ (by omega) hn5.seg (by omega) hY5).mono ?_
     rintro e w6 ⟨rfl,rfl⟩
     go_wp2_with fail
     refine (rSub_any _ _ _ _ Tt _ _ Y _ (by omega) hn5.seg (by omega) hY5 HLE.out).mono ?_
     rintro e w6 ⟨a6,rfl,hn6⟩
     have hq6:=hq5.below hn6.below (Nat.le_refl _)
     have hcell:=hq6.cells (j / 32) hjX
     rw [Nat.zero_add,←hc'] at hcell
     have hrq6:=hrq5.below hn6.below hlt5
     have hfz:=fun o=>hrq6.frozen o
     clear hc' hcz hroom
     have hB6:=hB5.trans (hn6.below.mono hB5.size)
     have hs6:=hn6.below.size
     have hs5:=hn5.below.size
     go_wp2
     go_roundw
     case rel =>
      have hpow:(2:Nat) ^ j=2 ^ (j % 32)*BB ^ (j / 32):=by rw [BB_two,←Nat.pow_add];congr 1;omega
      have hput:put (hib Q (j+1)) (j / 32) 1 (c+2 ^ (j % 32))=hib Q j:=by
       have h1:=put_add (Q:=hib Q (j+1)) (p:=j / 32) (t:=2 ^ (j % 32)) (by rw [←HC.out];exact HRM.out)
       rw [←HC.out,←hpow] at h1
       rw [h1,FIN.out.2]
      refine ⟨j,a6,by omega,by go_num,by rw [←FIN.out.1],by rw [World.size_setCell];omega,?_,hrq6.setCell _ _,?_,?_,?_⟩
      ·rw [←FIN.out.1]
       refine ⟨?_,hB6.setCell hgq _,fun h=>?_⟩
       ·by_cases h0:0 < ln (Tt - Y)
        ·obtain ⟨b6,o6,rfl,hf6,_⟩:=hn6.fresh h0
         exact hn6.seg.setOther2 (by omega)
        ·have e:ln (Tt - Y)=0:=by omega
         rw [e,ln_eq_zero.1 e];exact Seg.nil _ _
       ·obtain ⟨b6,o6,rfl,hf6,hr6⟩:=hn6.fresh h
        exact ⟨b6,o6,rfl,by have:=hB5.size;omega,hr6.setCell _ _⟩
      ·have:=hq6.store (i:=j / 32) (d:=c+2 ^ (j % 32)) hjX HRM.out (v:=bits BinOp.or IntKind.u32 (c:Int) (2 ^ (j % 32) % 4294967296)) OR.out
       rw [hput,Nat.zero_add] at this
       exact this
      ·exact ((hY5.below hn6.below (Nat.le_refl _))).setOther1 hne1
      ·exact ((hX5.below hn6.below (Nat.le_refl _))).setOther1 (HX0.out (by omega))
     case measure=>simp [intOf]
   ·have hk0:k=0:=by omega
    subst hk0
    have e0:hib Q 0=X / Y:=by unfold hib;rw [Nat.pow_zero,Nat.div_one,Nat.mul_one,HQ.out]
    rw [e0] at hsq
    rw [Nat.pow_zero,Nat.div_one] at hR ⊢
    go_wp2_with fail
    refine (xX8 _ _ _ (X / Y) _ (by omega) hsq).mono ?_
    rintro e w5 ⟨a5,rfl,hn5⟩
    go_wp2
    go_ret3
    exact ⟨_,_,rfl,hn5.back hR.below,hR.later hn5.below⟩
theorem rMul_is (ao ao2:Option Addr) (n cap X m cap2 Y Z:Nat) (w:World) (hm:n+m≤70368744177664) (hS:Seg w ao X n) (hS2:Seg w ao2 Y m) (hz:X*Y=Z) :
  Calls Tryz.prog 69 #[.slice ao n cap,.slice ao2 m cap2] w fun e w'=>∃ ao',e=.returned (.slice ao' (ln Z) (ln Z))∧New w w' ao' Z (ln Z):=by
 subst hz;exact rMul_any ao ao2 n cap X m cap2 Y w hm hS hS2
theorem rDiv_is (ao ao2:Option Addr) (n cap X m cap2 Y P R:Nat) (w:World) (hm:n≤70368744177660) (hS:Seg w ao X n) (hm2:m≤70368744177660) (hS2:Seg w ao2 Y m) (h:X=P*Y+R) (hR:R < Y) :
  Calls Tryz.prog 65 #[.slice ao n cap,.slice ao2 m cap2] w fun e w'=>∃ aq ar,e=.returned (.tuple #[.slice aq (ln P) (ln P),.slice ar (ln R) (ln R),.int .i64 0])∧New w w' aq P (ln P)∧New w w' ar R (ln R):=by
 have e1:X / Y=P:=by rw [h,Nat.mul_comm,Nat.mul_add_div (by omega),Nat.div_eq_of_lt hR,Nat.add_zero]
 have e2:X % Y=R:=by rw [h,Nat.mul_comm,Nat.mul_add_mod,Nat.mod_eq_of_lt hR]
 have:=rDiv_any ao ao2 n cap X m cap2 Y w hm hS hm2 hS2 (by omega)
 rwa [e1,e2] at this
end Go.Proofs.YtgfmaejhdbmkoaaGreat
