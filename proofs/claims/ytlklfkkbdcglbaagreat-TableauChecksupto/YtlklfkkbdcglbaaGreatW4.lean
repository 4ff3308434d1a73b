import Derived.Test.YtlklfkkbdcglbaaGreatW3
set_option linter.unusedSimpArgs false
namespace Go.Proofs.YtlklfkkbdcglbaaGreat
open Go.RowKit
set_option linter.unusedVariables false
set_option maxHeartbeats 400000 in
theorem rOf_any (n:Nat) (w:World) (hn:n < 18446744073709551616) :
  Calls Tryz.prog 138 #[.int .u64 n] w fun e w'=>∃ ao,e=.returned (.slice ao (ln n) (ln n))∧New w w' ao n (ln n):=by
 have hN:=pair_new w n 123 (n % 4294967296) (n / 4294967296) hn (by rw [dg0];simp) (by rw [dg1];omega)
 go_enter Tryz.func138,Tryz.ntmps138
 go_wp2_with fail
 refine (rNorm_any _ 2 2 n _ (by omega) hN.seg).mono ?_
 rintro e w1 ⟨a1,rfl,hn1⟩
 go_wp2
 go_ret
 exact ⟨_,rfl,hn1.back hN.below⟩
theorem at_any (ao:Option Addr) (n cap X i:Nat) (w:World) (hm:n≤70368744177664) (hS:Seg w ao X n) :
  Calls Tryz.prog 174 #[.slice ao n cap,.int .i64 i] w fun e w'=>e=.returned (.int .u64 (dg X i:Nat))∧w=w':=by
 by_cases hi:i < n
 ·obtain ⟨b,off,rfl,hb,hcell⟩:=hS.2 (by omega)
  have hd:=dg_lt X i
  go_enter Tryz.func174,Tryz.ntmps174
  go_wp2
  go_ret
  exact ⟨rfl,rfl⟩
 ·have e:dg X i=0:=dg_big (Nat.lt_of_lt_of_le hS.1 (pow_mono (by omega)))
  rw [e]
  go_enter Tryz.func174,Tryz.ntmps174
  go_wp2
  go_ret
  exact ⟨rfl,rfl⟩
set_option maxHeartbeats 1000000 in
theorem rCmp_any (ao ao2:Option Addr) (n cap X m cap2 Y:Nat) (w:World) (hm:n≤70368744177664) (hS:Seg w ao X n) (hm2:m≤70368744177664) (hS2:Seg w ao2 Y m) :
  Calls Tryz.prog 145 #[.slice ao n cap,.slice ao2 m cap2] w fun e w'=>e=.returned (.int .i64 (cmpI X Y))∧w=w':=by
 by_cases hnm:n < m
 all_goals
  go_enter Tryz.func145,Tryz.ntmps145
  go_wp2
  go_loop [6] (fun i=>∃ k:Nat,k≤70368744177664∧i=.int .i64 ((k:Int) - 1)∧X / BB ^ k=Y / BB ^ k) (fun i=>(intOf i+1).toNat)
  case atStart =>
   first
   | exact ⟨m,hm2,rfl,by rw [div_big hS2.1,div_big (Nat.lt_of_lt_of_le hS.1 (pow_mono (by omega)))]⟩
   | exact ⟨n,hm,rfl,by rw [div_big hS.1,div_big (Nat.lt_of_lt_of_le hS2.1 (pow_mono (by omega)))]⟩
  case round =>
   obtain ⟨k,hk,rfl,hd⟩:=hrel
   have HD:Hid (X / BB ^ k=Y / BB ^ k):=hd
   clear hd
   by_cases hlt:0 < k
   ·obtain ⟨j,rfl⟩:∃ j,k=j+1:=⟨k - 1,by omega⟩
    have hcast:((j+1:Nat):Int) - 1=(j:Nat):=by omega
    rw [hcast]
    by_cases hx:dg X j < dg Y j
    ·go_wp2_with fail
     refine (at_any _ _ _ X j _ hm hS).mono ?_
     rintro e w' ⟨rfl,rfl⟩
     go_wp2_with fail
     refine (at_any _ _ _ Y j _ hm2 hS2).mono ?_
     rintro e w' ⟨rfl,rfl⟩
     go_wp2
     go_ret
     exact ⟨ret_int (cmpI_lt (lt_of_top_dg HD.out hx)).symm,rfl⟩
    ·by_cases hx2:dg Y j < dg X j
     ·go_wp2_with fail
      refine (at_any _ _ _ X j _ hm hS).mono ?_
      rintro e w' ⟨rfl,rfl⟩
      go_wp2_with fail
      refine (at_any _ _ _ Y j _ hm2 hS2).mono ?_
      rintro e w' ⟨rfl,rfl⟩
      go_wp2_with fail
      refine (at_any _ _ _ X j _ hm hS).mono ?_
      rintro e w' ⟨rfl,rfl⟩
      go_wp2_with fail
      refine (at_any _ _ _ Y j _ hm2 hS2).mono ?_
      rintro e w' ⟨rfl,rfl⟩
      go_wp2
      go_ret
      exact ⟨ret_int (cmpI_gt (lt_of_top_dg HD.out.symm hx2)).symm,rfl⟩
     ·go_wp2_with fail
      refine (at_any _ _ _ X j _ hm hS).mono ?_
      rintro e w' ⟨rfl,rfl⟩
      go_wp2_with fail
      refine (at_any _ _ _ Y j _ hm2 hS2).mono ?_
      rintro e w' ⟨rfl,rfl⟩
      go_wp2_with fail
      refine (at_any _ _ _ X j _ hm hS).mono ?_
      rintro e w' ⟨rfl,rfl⟩
      go_wp2_with fail
      refine (at_any _ _ _ Y j _ hm2 hS2).mono ?_
      rintro e w' ⟨rfl,rfl⟩
      go_wp2
      go_round
      case rel=>exact ⟨j,by omega,by go_num,div_eq_of_dg HD.out (by omega)⟩
      case measure=>simp [intOf]
   ·go_wp2
    go_ret
    have hk0:k=0:=by omega
    subst hk0
    have e:X=Y:=by have:=HD.out;simpa using this
    exact ⟨ret_int (cmpI_eq e).symm,rfl⟩
set_option maxHeartbeats 1000000 in
theorem rAdd_any (ao ao2:Option Addr) (n cap X m cap2 Y:Nat) (w:World) (hm:n≤70368744177663) (hS:Seg w ao X n) (hm2:m≤70368744177663) (hS2:Seg w ao2 Y m) :
  Calls Tryz.prog 162 #[.slice ao n cap,.slice ao2 m cap2] w fun e w'=>∃ ao',e=.returned (.slice ao' (ln (X+Y)) (ln (X+Y)))∧New w w' ao' (X+Y) (ln (X+Y)):=by
 obtain ⟨L,hL,hnL,hmL,hor⟩:∃ L,L≤70368744177663∧n≤L∧m≤L∧((n < m∧L=m)∨(¬ n < m∧L=n)):=by
  by_cases h:n < m
  ·exact ⟨m,hm2,by omega,by omega,Or.inl ⟨h,rfl⟩⟩
  ·exact ⟨n,hm,by omega,by omega,Or.inr ⟨h,rfl⟩⟩
 have HZ:Hid (X+Y < BB ^ (L+1)):=by
  have h1:=Nat.lt_of_lt_of_le hS.1 (pow_mono hnL)
  have h2:=Nat.lt_of_lt_of_le hS2.1 (pow_mono hmL)
  rw [BB_eq] at h1 h2
  show _ < _
  rw [pow_succ',BB_eq]
  omega
 rcases hor with ⟨hnm,rfl⟩ | ⟨hnm,rfl⟩
 all_goals
  go_enter Tryz.func162,Tryz.ntmps162
  go_wp2_with (at_make;refine mk_law _ rfl _ _ rfl _ (L+1) rfl rfl (by go_num) (by omega) ?_;intro w1 hnew hrow)
  go_loopw [7,8] (fun c i wr=>∃ k:Nat,k≤L+1∧i=.int .i64 k∧c=.int .u64 (cy X Y k:Nat)∧Wr w.heap.size 0 (0+(L+1)) w1 wr∧Seg wr (some ⟨w.heap.size,0,none⟩) (mix (X+Y) 0 k) (L+1)) (fun _ i _=>L+1 - (intOf i).toNat)
  case atStart=>exact ⟨0,Nat.zero_le _,rfl,by rw [cy_zero];rfl,Wr.refl _ _ _ _,by rw [mix_zero];exact hnew.seg⟩
  case round =>
   obtain ⟨k,hk,rfl,rfl,hwr,hseg⟩:=hrel
   have hlt1:=hrow.lt
   have hB:Below w.heap.size w wr:=hnew.below.trans (hwr.below (Nat.le_refl _) hnew.below.size)
   have hcy:=cy_le X Y k
   have h1:=dg_lt X k
   have h2:=dg_lt Y k
   by_cases hlt:k < L+1
   ·have hcx:=hseg.rest k (Nat.le_refl _) hlt
    rw [Nat.zero_add] at hcx
    have hfz:=fun o=>(hwr.row hrow).frozen o
    go_wp2_with fail
    refine (at_any _ _ _ X k _ (by omega) (hS.below hB (Nat.le_refl _))).mono ?_
    rintro e w' ⟨rfl,rfl⟩
    go_wp2_with fail
    refine (at_any _ _ _ Y k _ (by omega) (hS2.below hB (Nat.le_refl _))).mono ?_
    rintro e w' ⟨rfl,rfl⟩
    go_wp2
    go_roundw
    case rel =>
     have e1:=add_dg X Y k
     have e2:=add_cy X Y k
     refine ⟨k+1,by omega,by go_num,?_,?_,?_⟩
     ·congr 1;omega
     ·have:=hwr.setCell (0+k) (by omega) (by omega) (.int .u32 ((((dg X k:Nat):Int)+((dg Y k:Nat):Int)+((cy X Y k:Nat):Int)) % 4294967296))
      simpa using this
     ·have:=hseg.set hlt (BBp _) (v:=(((dg X k:Nat):Int)+((dg Y k:Nat):Int)+((cy X Y k:Nat):Int)) % 4294967296) (by omega)
      simpa using this
    case measure=>simp [intOf];omega
   ·have e:k=L+1:=by omega
    subst e
    rw [mix_nought HZ.out] at hseg
    have hN:New w wr (some ⟨w.heap.size,0,none⟩) (X+Y) (L+1):=⟨hseg,hB,fun _=>⟨_,_,rfl,Nat.le_refl _,hwr.row hrow⟩⟩
    go_wp2_with fail
    refine (rNorm_any _ _ _ (X+Y) _ (by omega) hseg).mono ?_
    rintro e w2 ⟨a2,rfl,hn2⟩
    go_wp2
    go_ret
    exact ⟨_,rfl,hn2.back hB⟩
set_option maxHeartbeats 1000000 in
theorem rSub_any (ao ao2:Option Addr) (n cap X m cap2 Y:Nat) (w:World) (hm:n≤70368744177664) (hS:Seg w ao X n) (hm2:m≤70368744177664) (hS2:Seg w ao2 Y m) (hle:Y≤X) :
  Calls Tryz.prog 148 #[.slice ao n cap,.slice ao2 m cap2] w fun e w'=>∃ ao',e=.returned (.tuple #[.slice ao' (ln (X - Y)) (ln (X - Y)),.int .i64 0])∧New w w' ao' (X - Y) (ln (X - Y)):=by
 have HL:Hid (Y≤X):=hle
 have hb:¬ cmpI X Y < 0:=by unfold cmpI;split;omega;split <;> simp
 clear hle
 go_enter Tryz.func148,Tryz.ntmps148
 go_wp2_with fail
 refine (rCmp_any _ _ _ _ X _ _ Y _ hm hS hm2 hS2).mono ?_
 rintro e w' ⟨rfl,rfl⟩
 go_wp2_with (at_make;refine mk_law _ rfl _ _ rfl _ n rfl rfl rfl hm ?_;intro w1 hnew hrow)
 go_loopw [7,8] (fun c i wr=>∃ k:Nat,k≤n∧i=.int .i64 k∧c=.int .u64 (bw X Y k:Nat)∧Wr w.heap.size 0 (0+n) w1 wr∧Seg wr (some ⟨w.heap.size,0,none⟩) (mix (X - Y) 0 k) n) (fun _ i _=>n - (intOf i).toNat)
 case atStart=>exact ⟨0,Nat.zero_le _,rfl,by rw [bw_zero];rfl,Wr.refl _ _ _ _,by rw [mix_zero];exact hnew.seg⟩
 case round =>
  obtain ⟨k,hk,rfl,rfl,hwr,hseg⟩:=hrel
  have hlt1:=hrow.lt
  have hB:Below w.heap.size w wr:=hnew.below.trans (hwr.below (Nat.le_refl _) hnew.below.size)
  have hcy:=bw_le X Y k
  have h1:=dg_lt X k
  have h2:=dg_lt Y k
  by_cases hlt:k < n
  ·have hcx:=hseg.rest k (Nat.le_refl _) hlt
   rw [Nat.zero_add] at hcx
   have hfz:=fun o=>(hwr.row hrow).frozen o
   go_wp2_with fail
   refine (at_any _ _ _ X k _ (by omega) (hS.below hB (Nat.le_refl _))).mono ?_
   rintro e w' ⟨rfl,rfl⟩
   go_wp2_with fail
   refine (at_any _ _ _ Y k _ (by omega) (hS2.below hB (Nat.le_refl _))).mono ?_
   rintro e w' ⟨rfl,rfl⟩
   go_wp2
   go_roundw
   case rel =>
    have e:=sub_val (sub_step k HL.out) h1 h2 (dg_lt _ _) hcy (bw_le _ _ _)
    refine ⟨k+1,by omega,by go_num,?_,?_,?_⟩
    ·rw [e.2]
    ·have:=hwr.setCell (0+k) (by omega) (by omega) (.int .u32 (IntKind.u64.wrap (IntKind.u64.wrap (((dg X k:Nat):Int) - ((dg Y k:Nat):Int)) - ((bw X Y k:Nat):Int)) % 4294967296))
     simpa using this
    ·have:=hseg.set hlt (BBp _) e.1
     simpa using this
   case measure=>simp [intOf];omega
  ·have e:k=n:=by omega
   subst e
   have hlt2:X - Y < BB ^ k:=Nat.lt_of_le_of_lt (Nat.sub_le _ _) hS.1
   rw [mix_nought hlt2] at hseg
   clear hlt2
   go_wp2_with fail
   refine (rNorm_any _ _ _ (X - Y) _ (by omega) hseg).mono ?_
   rintro e w2 ⟨a2,rfl,hn2⟩
   go_wp2
   go_ret2
   exact ⟨_,rfl,hn2.back hB⟩
end Go.Proofs.YtlklfkkbdcglbaaGreat
