import Derived.Test.YtgfmaejhdbmkoaaGreatW2
import Derived.Lib.BitFns
import Derived.Lib.Strings
import Derived.Lib.Slices
import Derived.Lib.Small
import Derived.Lib.Walk
set_option linter.unusedSimpArgs false
namespace Go.Proofs.YtgfmaejhdbmkoaaGreat
open Go.RowKit
set_option linter.unusedVariables false
def sameB (n m X Y:Nat):Bool:=decide (n=m∧X=Y)
theorem sameB_self (n X:Nat):sameB n n X X=true:=by simp [sameB]
set_option maxHeartbeats 1000000 in
theorem Same_any (ao ao2:Option Addr) (n cap X m cap2 Y:Nat) (w:World) (hm:n≤70368744177664) (hm2:m≤70368744177664) (hS:Seg w ao X n) (hS2:Seg w ao2 Y m) :
  Calls Tryz.prog 39 #[.slice ao n cap,.slice ao2 m cap2] w fun e w'=>e=.returned (.bool (sameB n m X Y))∧Dr w w':=by
 by_cases hnm:n=m
 ·subst hnm
  go_enter Tryz.func39,Tryz.ntmps39
  go_wp2
  go_loopw [5] (fun i wr=>∃ k:Nat,k≤n∧i=.int .i64 k∧Dr w wr∧∀ j,j < k→dg X j=dg Y j) (fun i _=>n - (intOf i).toNat)
  case atStart=>exact ⟨0,Nat.zero_le _,rfl,Dr.refl _,fun j hj=>absurd hj (by omega)⟩
  case round =>
   obtain ⟨k,hk,rfl,hdr,hd⟩:=hrel
   have HD:Hid (∀ j,j < k→dg X j=dg Y j):=hd
   clear hd
   by_cases hlt:k < n
   ·have hTr:=hS.dr hdr
    have hTr2:=hS2.dr hdr
    obtain ⟨b,off,rfl,hb',hcell⟩:=hTr.2 (by omega)
    obtain ⟨b2,off2,rfl,hb2',hcell2⟩:=hTr2.2 (by omega)
    have h1:=xZ2 X k
    have h2:=xZ2 Y k
    by_cases hx:dg X k=dg Y k
    ·have hxb:(((dg X k:Nat):Int) != ((dg Y k:Nat):Int))=false:=by rw [hx];simp
     have HX:Hid (dg X k=dg Y k):=hx
     clear hx
     go_wp2
     go_quiet (fail)
     go_wp2
     go_roundw
     case rel=>exact ⟨k+1,by omega,by go_num,hdr.drewN _,fun j hj=>by
      by_cases e:j=k
      ·rw [e];exact HX.out
      ·exact HD.out j (by omega)⟩
     case measure=>simp [intOf];omega
    ·have hxb:(((dg X k:Nat):Int) != ((dg Y k:Nat):Int))=true:=by rw [bne_iff_ne];omega
     have e:sameB n n X Y=false:=by
      unfold sameB;rw [decide_eq_false];rintro ⟨_,rfl⟩;exact hx rfl
     go_wp2
     go_quiet (fail)
     go_wp2
     go_ret
     exact ⟨by rw [e];rfl,hdr.drewN _⟩
   ·go_wp2
    go_ret
    have e:X=Y:=dg_ext hS.1 hS2.1 fun i hi=>HD.out i (by omega)
    exact ⟨by simp [sameB,e],hdr⟩
 ·have hb:(((n:Nat):Int) != ((m:Nat):Int))=true:=by rw [bne_iff_ne];omega
  have e:sameB n m X Y=false:=by simp [sameB,hnm]
  go_enter Tryz.func39,Tryz.ntmps39
  go_wp2
  go_ret
  exact ⟨by rw [e];rfl,Dr.refl _⟩
set_option maxHeartbeats 1000000 in
theorem xX8 (ao:Option Addr) (n cap X:Nat) (w:World) (hm:n≤70368744177664) (hS:Seg w ao X n) :
  Calls Tryz.prog 63 #[.slice ao n cap] w fun e w'=>∃ ao',e=.returned (.slice ao' (ln X) (ln X))∧New w w' ao' X (ln X):=by
 go_enter Tryz.func63,Tryz.ntmps63
 go_wp2
 go_loop [3] (fun t=>∃ k:Nat,k≤n∧t=.int .i64 k∧X < BB ^ k) (fun t=>(intOf t).toNat)
 case atStart=>exact ⟨n,Nat.le_refl _,rfl,hS.1⟩
 case round =>
  obtain ⟨k,hk,rfl,ht⟩:=hrel
  have HT:Hid (X < BB ^ k):=ht
  clear ht
  by_cases hend:k=0∨dg X (k - 1)≠0
  ·have hlx:ln X=k:=by
    rcases hend with h | h
    ·subst h;have:=HT.out;have:X=0:=by simpa using this
     subst this;exact xX7
    ·exact ln_of_top HT.out h
   have HL:Hid (ln X=k):=hlx
   have HS:Hid (Seg w ao X k):=⟨HT.out,fun h0=>by obtain ⟨b,off,e,hlt,hc⟩:=hS.2 (by omega);exact ⟨b,off,e,hlt,fun i hi=>hc i (by omega)⟩⟩
   have key:∀ w1,New w w1 (some ⟨w.heap.size,0,none⟩) 0 k→Row w1 w.heap.size→Seg w1 ao X k:=fun w1 hnew hrow=>HS.out.below hnew.below (Nat.le_refl _)
   have KEY:Hid (∀ w1,New w w1 (some ⟨w.heap.size,0,none⟩) 0 k→Row w1 w.heap.size→Seg w1 ao X k):=key
   clear key hlx
   by_cases hk0:k=0
   ·subst hk0
    clear hend
    go_wp2_with (at_make;refine mk_law _ rfl _ _ rfl _ 0 rfl rfl rfl (by omega) ?_;intro w1 hnew hrow)
    go_loopw [5] (fun i wr=>i=.int .i64 0∧wr=w1) (fun i _=>0)
    case atStart=>exact ⟨rfl,rfl⟩
    case round =>
     obtain ⟨rfl,rfl⟩:=hrel
     go_wp2
     go_ret
     have hX:X=0:=ln_eq_zero.1 HL.out
     rw [HL.out,hX]
     exact ⟨_,rfl,New.nil _ hnew.below⟩
   ·have hdb:(((dg X (k - 1):Nat):Int) == 0)=false:=by
     rcases hend with h | h
     ·omega
     ·simpa using h
    obtain ⟨b0,off0,e0,hb0,hcell0⟩:=hS.2 (by omega)
    subst e0
    clear hend
    go_wp2_with (at_make;refine mk_law _ rfl _ _ rfl _ k rfl rfl rfl (by omega) ?_;intro w1 hnew hrow)
    have hS1:=KEY.out w1 hnew hrow
    go_loopw [5] (fun i wr=>∃ j:Nat,j≤k∧i=.int .i64 j∧Wr w.heap.size 0 (0+k) w1 wr∧Seg wr (some ⟨w.heap.size,0,none⟩) (mix X 0 j) k) (fun i _=>k - (intOf i).toNat)
    case atStart=>exact ⟨0,Nat.zero_le _,rfl,Wr.refl _ _ _ _,by rw [mix_zero];exact hnew.seg⟩
    case round =>
     obtain ⟨j,hj,rfl,hwr,hseg⟩:=hrel
     have hlt1:=hrow.lt
     by_cases hlt:j < k
     ·have hyr:=hS1.wr hwr (HS.out.ne_new (by omega) (Nat.le_refl _))
      have hcell2:=hyr.cells
      have hcx:=hseg.rest j (Nat.le_refl _) hlt
      rw [Nat.zero_add] at hcx
      have hfz:=fun o=>(hwr.row hrow).frozen o
      clear hcell0
      go_wp2
      go_roundw
      case rel =>
       refine ⟨j+1,by omega,by go_num,?_,?_⟩
       ·have:=hwr.setCell (0+j) (by omega) (by omega) (.int .u32 (dg X j:Nat))
        simpa using this
       ·have:=hseg.set hlt (BBp k) (v:=(dg X j:Nat)) rfl
        simpa using this
      case measure=>simp [intOf];omega
     ·have e:j=k:=by omega
      subst e
      go_wp2
      go_ret
      rw [mix_nought HS.out.1] at hseg
      rw [HL.out]
      exact ⟨_,rfl,hseg,hnew.below.trans (hwr.below (Nat.le_refl _) hnew.below.size),fun _=>⟨_,_,rfl,Nat.le_refl _,hwr.row hrow⟩⟩
  ·have hlt:0 < k:=by omega
   have hd0:dg X (k - 1)=0:=by
    by_cases h:dg X (k - 1)=0
    ·exact h
    ·exact absurd (Or.inr h) hend
   have hdb:(((dg X (k - 1):Nat):Int) == 0)=true:=by simp [hd0]
   have HD:Hid (dg X (k - 1)=0):=hd0
   clear hd0 hend
   obtain ⟨b,off,rfl,hb,hcell⟩:=hS.2 (by omega)
   go_wp2
   go_round
   case rel=>exact ⟨k - 1,by omega,by go_num,lt_of_dg_zero (by rw [Nat.sub_add_cancel hlt];exact HT.out) HD.out⟩
   case measure=>simp [intOf];omega
set_option maxHeartbeats 400000 in
theorem rOf_any (n:Nat) (w:World) (hn:n < 18446744073709551616) :
  Calls Tryz.prog 93 #[.int .u64 n] w fun e w'=>∃ ao,e=.returned (.slice ao (ln n) (ln n))∧New w w' ao n (ln n):=by
 have hN:=pair_new w n 89 (n % 4294967296) (n / 4294967296) hn (by rw [dg0];simp) (by rw [dg1];omega)
 go_enter Tryz.func93,Tryz.ntmps93
 go_wp2_with fail
 refine (xX8 _ 2 2 n _ (by omega) hN.seg).mono ?_
 rintro e w1 ⟨a1,rfl,hn1⟩
 go_wp2
 go_ret
 exact ⟨_,rfl,hn1.back hN.below⟩
theorem at_any (ao:Option Addr) (n cap X i:Nat) (w:World) (hm:n≤70368744177664) (hS:Seg w ao X n) :
  Calls Tryz.prog 114 #[.slice ao n cap,.int .i64 i] w fun e w'=>e=.returned (.int .u64 (dg X i:Nat))∧w=w':=by
 by_cases hi:i < n
 ·obtain ⟨b,off,rfl,hb,hcell⟩:=hS.2 (by omega)
  have hd:=xZ2 X i
  go_enter Tryz.func114,Tryz.ntmps114
  go_wp2
  go_ret
  exact ⟨rfl,rfl⟩
 ·have e:dg X i=0:=dg_big (Nat.lt_of_lt_of_le hS.1 (xX4 (by omega)))
  rw [e]
  go_enter Tryz.func114,Tryz.ntmps114
  go_wp2
  go_ret
  exact ⟨rfl,rfl⟩
set_option maxHeartbeats 1000000 in
theorem rCmp_any (ao ao2:Option Addr) (n cap X m cap2 Y:Nat) (w:World) (hm:n≤70368744177664) (hS:Seg w ao X n) (hm2:m≤70368744177664) (hS2:Seg w ao2 Y m) :
  Calls Tryz.prog 82 #[.slice ao n cap,.slice ao2 m cap2] w fun e w'=>e=.returned (.int .i64 (cmpI X Y))∧w=w':=by
 by_cases hnm:n < m
 all_goals
  go_enter Tryz.func82,Tryz.ntmps82
  go_wp2
  go_loop [6] (fun i=>∃ k:Nat,k≤70368744177664∧i=.int .i64 ((k:Int) - 1)∧X / BB ^ k=Y / BB ^ k) (fun i=>(intOf i+1).toNat)
  case atStart =>
   first
   | exact ⟨m,hm2,rfl,by rw [div_big hS2.1,div_big (Nat.lt_of_lt_of_le hS.1 (xX4 (by omega)))]⟩
   | exact ⟨n,hm,rfl,by rw [div_big hS.1,div_big (Nat.lt_of_lt_of_le hS2.1 (xX4 (by omega)))]⟩
  case round =>
   obtain ⟨k,hk,rfl,hd⟩:=hrel
   have HD:Hid (X / BB ^ k=Y / BB ^ k):=hd
   clear hd
   by_cases hlt:0 < k
   ·obtain ⟨j,rfl⟩:∃ j,k=j+1:=⟨k - 1,by omega⟩
    have hcast:((j+1:Nat):Int) - 1=(j:Nat):=by omega
    rw [hcast]
    by_cases hx:dg X j < dg Y j
    ·go_wp2_with fail
     refine (at_any _ _ _ X j _ hm hS).mono ?_
     rintro e w' ⟨rfl,rfl⟩
     go_wp2_with fail
     refine (at_any _ _ _ Y j _ hm2 hS2).mono ?_
     rintro e w' ⟨rfl,rfl⟩
     go_wp2
     go_ret
     exact ⟨xJ7 (cmpI_lt (lt_of_top_dg HD.out hx)).symm,rfl⟩
    ·by_cases hx2:dg Y j < dg X j
     ·go_wp2_with fail
      refine (at_any _ _ _ X j _ hm hS).mono ?_
      rintro e w' ⟨rfl,rfl⟩
      go_wp2_with fail
      refine (at_any _ _ _ Y j _ hm2 hS2).mono ?_
      rintro e w' ⟨rfl,rfl⟩
      go_wp2_with fail
      refine (at_any _ _ _ X j _ hm hS).mono ?_
      rintro e w' ⟨rfl,rfl⟩
      go_wp2_with fail
      refine (at_any _ _ _ Y j _ hm2 hS2).mono ?_
      rintro e w' ⟨rfl,rfl⟩
      go_wp2
      go_ret
      exact ⟨xJ7 (cmpI_gt (lt_of_top_dg HD.out.symm hx2)).symm,rfl⟩
     ·go_wp2_with fail
      refine (at_any _ _ _ X j _ hm hS).mono ?_
      rintro e w' ⟨rfl,rfl⟩
      go_wp2_with fail
      refine (at_any _ _ _ Y j _ hm2 hS2).mono ?_
      rintro e w' ⟨rfl,rfl⟩
      go_wp2_with fail
      refine (at_any _ _ _ X j _ hm hS).mono ?_
      rintro e w' ⟨rfl,rfl⟩
      go_wp2_with fail
      refine (at_any _ _ _ Y j _ hm2 hS2).mono ?_
      rintro e w' ⟨rfl,rfl⟩
      go_wp2
      go_round
      case rel=>exact ⟨j,by omega,by go_num,div_eq_of_dg HD.out (by omega)⟩
      case measure=>simp [intOf]
   ·go_wp2
    go_ret
    have hk0:k=0:=by omega
    subst hk0
    have e:X=Y:=by have:=HD.out;simpa using this
    exact ⟨xJ7 (cmpI_eq e).symm,rfl⟩
set_option maxHeartbeats 1000000 in
theorem rAdd_any (ao ao2:Option Addr) (n cap X m cap2 Y:Nat) (w:World) (hm:n≤70368744177663) (hS:Seg w ao X n) (hm2:m≤70368744177663) (hS2:Seg w ao2 Y m) :
  Calls Tryz.prog 87 #[.slice ao n cap,.slice ao2 m cap2] w fun e w'=>∃ ao',e=.returned (.slice ao' (ln (X+Y)) (ln (X+Y)))∧New w w' ao' (X+Y) (ln (X+Y)):=by
 obtain ⟨L,hL,hnL,hmL,hor⟩:∃ L,L≤70368744177663∧n≤L∧m≤L∧((n < m∧L=m)∨(¬ n < m∧L=n)):=by
  by_cases h:n < m
  ·exact ⟨m,hm2,by omega,by omega,Or.inl ⟨h,rfl⟩⟩
  ·exact ⟨n,hm,by omega,by omega,Or.inr ⟨h,rfl⟩⟩
 have HZ:Hid (X+Y < BB ^ (L+1)):=by
  have h1:=Nat.lt_of_lt_of_le hS.1 (xX4 hnL)
  have h2:=Nat.lt_of_lt_of_le hS2.1 (xX4 hmL)
  rw [BB_eq] at h1 h2
  show _ < _
  rw [xQ7,BB_eq]
  omega
 rcases hor with ⟨hnm,rfl⟩ | ⟨hnm,rfl⟩
 all_goals
  go_enter Tryz.func87,Tryz.ntmps87
  go_wp2_with (at_make;refine mk_law _ rfl _ _ rfl _ (L+1) rfl rfl (by go_num) (by omega) ?_;intro w1 hnew hrow)
  go_loopw [7,8] (fun c i wr=>∃ k:Nat,k≤L+1∧i=.int .i64 k∧c=.int .u64 (cy X Y k:Nat)∧Wr w.heap.size 0 (0+(L+1)) w1 wr∧Seg wr (some ⟨w.heap.size,0,none⟩) (mix (X+Y) 0 k) (L+1)) (fun _ i _=>L+1 - (intOf i).toNat)
  case atStart=>exact ⟨0,Nat.zero_le _,rfl,by rw [cy_zero];rfl,Wr.refl _ _ _ _,by rw [mix_zero];exact hnew.seg⟩
  case round =>
   obtain ⟨k,hk,rfl,rfl,hwr,hseg⟩:=hrel
   have hlt1:=hrow.lt
   have hB:Below w.heap.size w wr:=hnew.below.trans (hwr.below (Nat.le_refl _) hnew.below.size)
   have hcy:=cy_le X Y k
   have h1:=xZ2 X k
   have h2:=xZ2 Y k
   by_cases hlt:k < L+1
   ·have hcx:=hseg.rest k (Nat.le_refl _) hlt
    rw [Nat.zero_add] at hcx
    have hfz:=fun o=>(hwr.row hrow).frozen o
    go_wp2_with fail
    refine (at_any _ _ _ X k _ (by omega) (hS.below hB (Nat.le_refl _))).mono ?_
    rintro e w' ⟨rfl,rfl⟩
    go_wp2_with fail
    refine (at_any _ _ _ Y k _ (by omega) (hS2.below hB (Nat.le_refl _))).mono ?_
    rintro e w' ⟨rfl,rfl⟩
    go_wp2
    go_roundw
    case rel =>
     have e1:=add_dg X Y k
     have e2:=add_cy X Y k
     refine ⟨k+1,by omega,by go_num,?_,?_,?_⟩
     ·congr 1;omega
     ·have:=hwr.setCell (0+k) (by omega) (by omega) (.int .u32 ((((dg X k:Nat):Int)+((dg Y k:Nat):Int)+((cy X Y k:Nat):Int)) % 4294967296))
      simpa using this
     ·have:=hseg.set hlt (BBp _) (v:=(((dg X k:Nat):Int)+((dg Y k:Nat):Int)+((cy X Y k:Nat):Int)) % 4294967296) (by omega)
      simpa using this
    case measure=>simp [intOf];omega
   ·have e:k=L+1:=by omega
    subst e
    rw [mix_nought HZ.out] at hseg
    have hN:New w wr (some ⟨w.heap.size,0,none⟩) (X+Y) (L+1):=⟨hseg,hB,fun _=>⟨_,_,rfl,Nat.le_refl _,hwr.row hrow⟩⟩
    go_wp2_with fail
    refine (xX8 _ _ _ (X+Y) _ (by omega) hseg).mono ?_
    rintro e w2 ⟨a2,rfl,hn2⟩
    go_wp2
    go_ret
    exact ⟨_,rfl,hn2.back hB⟩
set_option maxHeartbeats 1000000 in
theorem rSub_any (ao ao2:Option Addr) (n cap X m cap2 Y:Nat) (w:World) (hm:n≤70368744177664) (hS:Seg w ao X n) (hm2:m≤70368744177664) (hS2:Seg w ao2 Y m) (hle:Y≤X) :
  Calls Tryz.prog 85 #[.slice ao n cap,.slice ao2 m cap2] w fun e w'=>∃ ao',e=.returned (.tuple #[.slice ao' (ln (X - Y)) (ln (X - Y)),.int .i64 0])∧New w w' ao' (X - Y) (ln (X - Y)):=by
 have HL:Hid (Y≤X):=hle
 have hb:¬ cmpI X Y < 0:=by unfold cmpI;split;omega;split <;> simp
 clear hle
 go_enter Tryz.func85,Tryz.ntmps85
 go_wp2_with fail
 refine (rCmp_any _ _ _ _ X _ _ Y _ hm hS hm2 hS2).mono ?_
 rintro e w' ⟨rfl,rfl⟩
 go_wp2_with (at_make;refine mk_law _ rfl _ _ rfl _ n rfl rfl rfl hm ?_;intro w1 hnew hrow)
 go_loopw [7,8] (fun c i wr=>∃ k:Nat,k≤n∧i=.int .i64 k∧c=.int .u64 (bw X Y k:Nat)∧Wr w.heap.size 0 (0+n) w1 wr∧Seg wr (some ⟨w.heap.size,0,none⟩) (mix (X - Y) 0 k) n) (fun _ i _=>n - (intOf i).toNat)
 case atStart=>exact ⟨0,Nat.zero_le _,rfl,by rw [bw_zero];rfl,Wr.refl _ _ _ _,by rw [mix_zero];exact hnew.seg⟩
 case round =>
  obtain ⟨k,hk,rfl,rfl,hwr,hseg⟩:=hrel
  have hlt1:=hrow.lt
  have hB:Below w.heap.size w wr:=hnew.below.trans (hwr.below (Nat.le_refl _) hnew.below.size)
  have hcy:=bw_le X Y k
  have h1:=xZ2 X k
  have h2:=xZ2 Y k
  by_cases hlt:k < n
  ·have hcx:=hseg.rest k (Nat.le_refl _) hlt
   rw [Nat.zero_add] at hcx
   have hfz:=fun o=>(hwr.row hrow).frozen o
   go_wp2_with fail
   refine (at_any _ _ _ X k _ (by omega) (hS.below hB (Nat.le_refl _))).mono ?_
   rintro e w' ⟨rfl,rfl⟩
   go_wp2_with fail
   refine (at_any _ _ _ Y k _ (by omega) (hS2.below hB (Nat.le_refl _))).mono ?_
   rintro e w' ⟨rfl,rfl⟩
   go_wp2
   go_roundw
   case rel =>
    have e:=sub_val (sub_step k HL.out) h1 h2 (xZ2 _ _) hcy (bw_le _ _ _)
    refine ⟨k+1,by omega,by go_num,?_,?_,?_⟩
    ·rw [e.2]
    ·have:=hwr.setCell (0+k) (by omega) (by omega) (.int .u32 (IntKind.u64.wrap (IntKind.u64.wrap (((dg X k:Nat):Int) - ((dg Y k:Nat):Int)) - ((bw X Y k:Nat):Int)) % 4294967296))
     simpa using this
    ·have:=hseg.set hlt (BBp _) e.1
     simpa using this
   case measure=>simp [intOf];omega
  ·have e:k=n:=by omega
   subst e
   have hlt2:X - Y < BB ^ k:=Nat.lt_of_le_of_lt (Nat.sub_le _ _) hS.1
   rw [mix_nought hlt2] at hseg
   clear hlt2
   go_wp2_with fail
   refine (xX8 _ _ _ (X - Y) _ (by omega) hseg).mono ?_
   rintro e w2 ⟨a2,rfl,hn2⟩
   go_wp2
   go_ret2
   exact ⟨_,rfl,hn2.back hB⟩
def bl (X:Nat):Nat:=if h:X=0 then 0 else bl (X / 2)+1
termination_by X
decreasing_by omega
theorem bl_zero:bl 0=0:=by rw [bl];simp
theorem bl_pos {X:Nat} (h:X≠0):bl X=bl (X / 2)+1:=by rw [bl];simp [h]
theorem bl_lt (X:Nat):X < 2 ^ bl X:=by
 induction X using Nat.strongRecOn with
 | ind X ih =>
  by_cases h:X=0
  ·subst h;simp [bl_zero]
  ·rw [bl_pos h,Nat.pow_succ]
   have:=ih (X / 2) (by omega)
   omega
theorem bl_le {X:Nat} (h:X≠0):2 ^ (bl X - 1)≤X:=by
 induction X using Nat.strongRecOn with
 | ind X ih =>
  rw [bl_pos h,Nat.add_sub_cancel]
  by_cases hd:X / 2=0
  ·rw [hd,bl_zero];simp;omega
  ·have:=ih (X / 2) (by omega) hd
   have hl:bl (X / 2)=bl (X / 2) - 1+1:=by rw [bl_pos hd];omega
   rw [hl,Nat.pow_succ]
   omega
theorem bl_of {X k:Nat} (h1:2 ^ k≤X) (h2:X < 2 ^ (k+1)):bl X=k+1:=by
 have hp:0 < 2 ^ k:=Nat.two_pow_pos k
 have h0:X≠0:=by omega
 have a:=bl_lt X
 have b:=bl_le h0
 have c:k < bl X:=by
  by_cases hc:k < bl X
  ·exact hc
  ·have:=Nat.pow_le_pow_right (show 0 < 2 by omega) (show bl X≤k by omega);omega
 have d:bl X≤k+1:=by
  by_cases hc:bl X≤k+1
  ·exact hc
  ·have:=Nat.pow_le_pow_right (show 0 < 2 by omega) (show k+1≤bl X - 1 by omega);omega
 omega
theorem bl_lib {x:Nat} (h:x < 18446744073709551616):Lib.bitLen x=bl x:=by
 induction x using Nat.strongRecOn with
 | ind x ih =>
  by_cases h0:x=0
  ·subst h0;rw [bl_zero];decide
  ·rw [bl_pos h0,Lib.bitLen_half x h0 h,ih (x / 2) (by omega) (by omega)];omega
theorem tab_size:Lib.len8tab.size=256:=by kernel_rfl
theorem tab_fin:∀ i:Fin 256,(Lib.len8tab.get! i.val).toNat=Lib.bitLen i.val:=by decide +kernel
theorem tab_at (i:Nat) (h:i < Lib.len8tab.size):(Lib.len8tab[i]'h).toNat=Lib.bitLen i:=by
 have h2:i < 256:=by rw [←tab_size];exact h
 rw [←tab_fin ⟨i,h2⟩]
 simp [ByteArray.get!,ByteArray.getElem_eq_getElem_data,getElem!_pos,h]
theorem bitLen8 {i:Nat} (h:i < 256):Lib.bitLen i≤8:=Lib.bitLen_le i 8 (by omega) h
theorem fin8 (k i:Nat) (h:i < Lib.len8tab.size) (x:Nat) (hs:Lib.bitLen x=k+Lib.bitLen i) (hi:i < 256) (hk:k≤24) :
  wrap64 ((k:Int)+wrap64 (((Lib.len8tab[i]'h).toNat:Nat):Int))=((Lib.bitLen x:Nat):Int):=by
 rw [tab_at]
 have:=bitLen8 hi
 unfold wrap64;omega
set_option maxHeartbeats 4000000 in
set_option maxRecDepth 100000 in
theorem Len32_lib (x:Int) (w:World) (h0:0≤x) (h1:x≤4294967295) :
  Calls Tryz.prog 112 #[.int .u32 x] w fun e w'=>e=.returned (.int .i64 (Lib.bitLen x.toNat:Nat))∧w=w':=by
 have hts:=tab_size
 go_enter Tryz.func112,Tryz.ntmps112
 go_wp2
 all_goals (go_ret;refine ⟨xJ7 ?_,rfl⟩)
 ·have e:(x / 65536 / 256).toNat=x.toNat / 16777216:=by omega
  refine fin8 24 _ (by rw [tab_size];omega) _ ?_ (by omega) (by omega)
  rw [e];exact Lib.bitLen_shift24 x.toNat (by omega) (by omega)
 ·have e:(x / 65536).toNat=x.toNat / 65536:=by omega
  refine fin8 16 _ (by rw [tab_size];omega) _ ?_ (by omega) (by omega)
  rw [e];exact Lib.bitLen_shift16 x.toNat (by omega) (by omega)
 ·have e:(x / 256).toNat=x.toNat / 256:=by omega
  refine fin8 8 _ (by rw [tab_size];omega) _ ?_ (by omega) (by omega)
  rw [e];exact Lib.bitLen_shift8 x.toNat (by omega) (by omega)
 ·rw [tab_at]
  have:=bitLen8 (show x.toNat < 256 by omega)
  unfold wrap64;omega
theorem Len32_any (x:Nat) (w:World) (h:x < 4294967296) :
  Calls Tryz.prog 112 #[.int .u32 x] w fun e w'=>e=.returned (.int .i64 (bl x:Nat))∧w=w':=by
 have:=Len32_lib x w (by omega) (by omega)
 rwa [Int.toNat_natCast,bl_lib (by omega)] at this
def bt (X i:Nat):Nat:=X / 2 ^ i % 2
def bitB (X:Nat) (i:Int):Bool:=decide (0≤i∧bt X i.toNat=1)
theorem BB_two (k:Nat):BB ^ k=2 ^ (32*k):=by rw [Nat.pow_mul];rfl
theorem bt_dg (X j:Nat):bt X j=dg X (j / 32) / 2 ^ (j % 32) % 2:=by
 have hr:j % 32 < 32:=Nat.mod_lt _ (by omega)
 unfold bt dg
 have e1:X / 2 ^ j=X / BB ^ (j / 32) / 2 ^ (j % 32):=by
  rw [BB_two,Nat.div_div_eq_div_mul,←Nat.pow_add]
  congr 2;omega
 rw [e1]
 generalize X / BB ^ (j / 32)=Y
 generalize j % 32=r at hr
 have e2:BB=2 ^ r*(2 ^ (31 - r)*2):=by rw [←Nat.pow_succ,←Nat.pow_add,BB_eq,show r+(31 - r+1)=32 by omega]
 rw [e2,Nat.mod_mul,Nat.add_comm,Nat.mul_add_div (Nat.two_pow_pos r),Nat.div_eq_of_lt (Nat.mod_lt _ (Nat.two_pow_pos r)),Nat.add_zero,Nat.mod_mul_left_mod]
theorem bt_big {X n j:Nat} (h:X < BB ^ n) (hj:n≤j / 32):bt X j=0:=by
 rw [bt_dg,dg_big (Nat.lt_of_lt_of_le h (xX4 hj))];simp
theorem bit_val (X j:Nat):(bits BinOp.and IntKind.u32 (((dg X (j / 32):Nat):Int) / 2 ^ (j % 32)) 1 == 1)=bitB X (j:Int):=by
 have hd:=xZ2 X (j / 32)
 have hle:dg X (j / 32) / 2 ^ (j % 32)≤dg X (j / 32):=Nat.div_le_self _ _
 have e:((dg X (j / 32):Nat):Int) / 2 ^ (j % 32)=((dg X (j / 32) / 2 ^ (j % 32):Nat):Int):=by simp
 rw [e,show (1:Int)=((1:Nat):Int) from rfl,u32_and_nat _ _ (by omega) (by omega),nat_mask1,←bt_dg]
 unfold bitB
 rw [Int.toNat_natCast]
 by_cases h:bt X j=1
 ·rw [h];simp
 ·simp only [h,and_false,decide_false]
  rw [beq_eq_false_iff_ne];omega
theorem ret_bool {a b:Bool} (h:a=b):Ending.returned (.bool a)=.returned (.bool b):=by rw [h]
set_option maxHeartbeats 1000000 in
theorem rBit_any (ao:Option Addr) (n cap X:Nat) (i:Int) (w:World) (hm:n≤70368744177664) (h1:-9223372036854775808≤i) (h2:i≤9223372036854775807) (hS:Seg w ao X n) :
  Calls Tryz.prog 83 #[.slice ao n cap,.int .i64 i] w fun e w'=>e=.returned (.bool (bitB X i))∧w=w':=by
 by_cases h0:i < 0
 ·have e:bitB X i=false:=by unfold bitB;rw [decide_eq_false];omega
  rw [e]
  go_enter Tryz.func83,Tryz.ntmps83
  go_wp2
  go_ret
  exact ⟨rfl,rfl⟩
 ·obtain ⟨j,rfl⟩:=Int.eq_ofNat_of_zero_le (show 0≤i by omega)
  by_cases hj:j / 32 < n
  ·obtain ⟨b,off,rfl,hb,hcell⟩:=hS.2 (by omega)
   have hd:=xZ2 X (j / 32)
   have hcj:=hcell (j / 32) hj
   go_enter Tryz.func83,Tryz.ntmps83
   go_wp2
   go_ret
   exact ⟨ret_bool (bit_val X j),rfl⟩
  ·have e:bitB X (j:Int)=false:=by unfold bitB;rw [decide_eq_false];rw [Int.toNat_natCast,bt_big hS.1 (by omega)];omega
   rw [e]
   go_enter Tryz.func83,Tryz.ntmps83
   go_wp2
   go_ret
   exact ⟨rfl,rfl⟩
theorem bl_top {X:Nat} (h:X≠0):(ln X - 1)*32+bl (dg X (ln X - 1))=bl X:=by
 have h1:=ln_le h
 have h2:=xJ3 X
 have h3:ln X≠0:=fun e=>h (ln_eq_zero.1 e)
 obtain ⟨k,hk⟩:∃ k,ln X=k+1:=⟨ln X - 1,by omega⟩
 rw [hk] at h1 h2 ⊢
 rw [Nat.add_sub_cancel] at h1 ⊢
 have hd:dg X k=X / BB ^ k:=by
  unfold dg
  rw [Nat.mod_eq_of_lt]
  rw [xQ7] at h2
  exact (Nat.div_lt_iff_lt_mul (BBp k)).2 (by rw [Nat.mul_comm];exact h2)
 have hd0:dg X k≠0:=by rw [hd];have:=Nat.div_pos h1 (BBp k);omega
 have a:=bl_lt (dg X k)
 have b:=bl_le hd0
 obtain ⟨m,hm⟩:∃ m,bl (dg X k)=m+1:=⟨bl (dg X k) - 1,by have:=bl_pos hd0;omega⟩
 rw [hm] at a b ⊢
 rw [Nat.add_sub_cancel] at b
 rw [hd] at a b
 have a':=(Nat.div_lt_iff_lt_mul (BBp k)).1 a
 have b':=(Nat.le_div_iff_mul_le (BBp k)).1 b
 rw [BB_two,←Nat.pow_add] at a' b'
 rw [bl_of (X:=X) (k:=k*32+m) (by rw [show k*32+m=m+32*k by omega];exact b') (by rw [show k*32+m+1=m+1+32*k by omega];exact a')]
 omega
theorem bl_le_len {X n:Nat} (h:X < BB ^ n):bl X≤32*n:=by
 by_cases h0:X=0
 ·subst h0;rw [bl_zero];omega
 ·have:=bl_le h0
  rw [BB_two] at h
  by_cases hc:bl X≤32*n
  ·exact hc
  ·have:=Nat.pow_le_pow_right (show 0 < 2 by omega) (show 32*n≤bl X - 1 by omega);omega
set_option maxHeartbeats 1000000 in
theorem Bits_any (ao:Option Addr) (n cap X:Nat) (w:World) (hc:n≤cap) (hm:n≤70368744177664) (hS:Seg w ao X n) :
  Calls Tryz.prog 124 #[.slice ao n cap] w fun e w'=>e=.returned (.int .i64 (bl X:Nat))∧w=w':=by
 have hl:=xQ4 hS.1
 by_cases h0:X=0
 ·subst h0
  have hb:(((ln 0:Nat):Int) == 0)=true:=by rw [xX7];rfl
  rw [bl_zero]
  go_enter Tryz.func124,Tryz.ntmps124
  go_wp2_with fail
  refine (xX5 _ _ _ 0 _ hc hm hS).mono ?_
  rintro e w' ⟨a1,rfl,rfl,ht⟩
  go_wp2
  go_ret
  exact ⟨rfl,rfl⟩
 ·have h1:0 < ln X:=by have:=mt ln_eq_zero.1 h0;omega
  have hb:(((ln X:Nat):Int) == 0)=false:=by rw [beq_eq_false_iff_ne];omega
  have hd:=xZ2 X (ln X - 1)
  have hbl:bl (dg X (ln X - 1))≤32:=by have:=bl_le_len (n:=1) (X:=dg X (ln X - 1)) (by rw [Nat.pow_one,BB_eq];exact hd);omega
  have HT:Hid ((ln X - 1)*32+bl (dg X (ln X - 1))=bl X):=bl_top h0
  clear h0
  go_enter Tryz.func124,Tryz.ntmps124
  go_wp2_with fail
  refine (xX5 _ _ _ X _ hc hm hS).mono ?_
  rintro e w' ⟨a1,rfl,rfl,ht⟩
  obtain ⟨b,off,rfl,hb2,hcell⟩:=(hS.trm ht).2 h1
  go_wp2_with fail
  refine (Len32_any _ _ hd).mono ?_
  rintro e w' ⟨rfl,rfl⟩
  go_wp2
  go_ret
  refine ⟨xJ7 ?_,rfl⟩
  have:=HT.out
  omega
end Go.Proofs.YtgfmaejhdbmkoaaGreat
