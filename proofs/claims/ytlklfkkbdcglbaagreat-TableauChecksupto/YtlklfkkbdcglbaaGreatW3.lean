import Derived.Test.YtlklfkkbdcglbaaGreatW2
set_option linter.unusedSimpArgs false
namespace Go.Proofs.YtlklfkkbdcglbaaGreat
open Go.RowKit
set_option linter.unusedVariables false
def sameB (n m X Y:Nat):Bool:=decide (n=m∧X=Y)
theorem sameB_self (n X:Nat):sameB n n X X=true:=by simp [sameB]
set_option maxHeartbeats 1000000 in
theorem Same_any (ao ao2:Option Addr) (n cap X m cap2 Y:Nat) (w:World) (hm:n≤70368744177664) (hm2:m≤70368744177664) (hS:Seg w ao X n) (hS2:Seg w ao2 Y m) :
  Calls Tryz.prog 83 #[.slice ao n cap,.slice ao2 m cap2] w fun e w'=>e=.returned (.bool (sameB n m X Y))∧Dr w w':=by
 by_cases hnm:n=m
 ·subst hnm
  go_enter Tryz.func83,Tryz.ntmps83
  go_wp2
  go_loopw [5] (fun i wr=>∃ k:Nat,k≤n∧i=.int .i64 k∧Dr w wr∧∀ j,j < k→dg X j=dg Y j) (fun i _=>n - (intOf i).toNat)
  case atStart=>exact ⟨0,Nat.zero_le _,rfl,Dr.refl _,fun j hj=>absurd hj (by omega)⟩
  case round =>
   obtain ⟨k,hk,rfl,hdr,hd⟩:=hrel
   have HD:Hid (∀ j,j < k→dg X j=dg Y j):=hd
   clear hd
   by_cases hlt:k < n
   ·have hTr:=hS.dr hdr
    have hTr2:=hS2.dr hdr
    obtain ⟨b,off,rfl,hb',hcell⟩:=hTr.2 (by omega)
    obtain ⟨b2,off2,rfl,hb2',hcell2⟩:=hTr2.2 (by omega)
    have h1:=dg_lt X k
    have h2:=dg_lt Y k
    by_cases hx:dg X k=dg Y k
    ·have hxb:(((dg X k:Nat):Int) != ((dg Y k:Nat):Int))=false:=by rw [hx];simp
     have HX:Hid (dg X k=dg Y k):=hx
     clear hx
     go_wp2
     go_quiet (fail)
     go_wp2
     go_roundw
     case rel=>exact ⟨k+1,by omega,by go_num,hdr.drewN _,fun j hj=>by
      by_cases e:j=k
      ·rw [e];exact HX.out
      ·exact HD.out j (by omega)⟩
     case measure=>simp [intOf];omega
    ·have hxb:(((dg X k:Nat):Int) != ((dg Y k:Nat):Int))=true:=by rw [bne_iff_ne];omega
     have e:sameB n n X Y=false:=by
      unfold sameB;rw [decide_eq_false];rintro ⟨_,rfl⟩;exact hx rfl
     go_wp2
     go_quiet (fail)
     go_wp2
     go_ret
     exact ⟨by rw [e];rfl,hdr.drewN _⟩
   ·go_wp2
    go_ret
    have e:X=Y:=dg_ext hS.1 hS2.1 fun i hi=>HD.out i (by omega)
    exact ⟨by simp [sameB,e],hdr⟩
 ·have hb:(((n:Nat):Int) != ((m:Nat):Int))=true:=by rw [bne_iff_ne];omega
  have e:sameB n m X Y=false:=by simp [sameB,hnm]
  go_enter Tryz.func83,Tryz.ntmps83
  go_wp2
  go_ret
  exact ⟨by rw [e];rfl,Dr.refl _⟩
set_option maxHeartbeats 1000000 in
theorem rNorm_any (ao:Option Addr) (n cap X:Nat) (w:World) (hm:n≤70368744177664) (hS:Seg w ao X n) :
  Calls Tryz.prog 107 #[.slice ao n cap] w fun e w'=>∃ ao',e=.returned (.slice ao' (ln X) (ln X))∧New w w' ao' X (ln X):=by
 go_enter Tryz.func107,Tryz.ntmps107
 go_wp2
 go_loop [3] (fun t=>∃ k:Nat,k≤n∧t=.int .i64 k∧X < BB ^ k) (fun t=>(intOf t).toNat)
 case atStart=>exact ⟨n,Nat.le_refl _,rfl,hS.1⟩
 case round =>
  obtain ⟨k,hk,rfl,ht⟩:=hrel
  have HT:Hid (X < BB ^ k):=ht
  clear ht
  by_cases hend:k=0∨dg X (k - 1)≠0
  ·have hlx:ln X=k:=by
    rcases hend with h | h
    ·subst h;have:=HT.out;have:X=0:=by simpa using this
     subst this;exact ln_zero
    ·exact ln_of_top HT.out h
   have HL:Hid (ln X=k):=hlx
   have HS:Hid (Seg w ao X k):=⟨HT.out,fun h0=>by obtain ⟨b,off,e,hlt,hc⟩:=hS.2 (by omega);exact ⟨b,off,e,hlt,fun i hi=>hc i (by omega)⟩⟩
   have key:∀ w1,New w w1 (some ⟨w.heap.size,0,none⟩) 0 k→Row w1 w.heap.size→Seg w1 ao X k:=fun w1 hnew hrow=>HS.out.below hnew.below (Nat.le_refl _)
   have KEY:Hid (∀ w1,New w w1 (some ⟨w.heap.size,0,none⟩) 0 k→Row w1 w.heap.size→Seg w1 ao X k):=key
   clear key hlx
   by_cases hk0:k=0
   ·subst hk0
    clear hend
    go_wp2_with (at_make;refine mk_law _ rfl _ _ rfl _ 0 rfl rfl rfl (by omega) ?_;intro w1 hnew hrow)
    go_loopw [5] (fun i wr=>i=.int .i64 0∧wr=w1) (fun i _=>0)
    case atStart=>exact ⟨rfl,rfl⟩
    case round =>
     obtain ⟨rfl,rfl⟩:=hrel
     go_wp2
     go_ret
     have hX:X=0:=ln_eq_zero.1 HL.out
     rw [HL.out,hX]
     exact ⟨_,rfl,New.nil _ hnew.below⟩
   ·have hdb:(((dg X (k - 1):Nat):Int) == 0)=false:=by
     rcases hend with h | h
     ·omega
     ·simpa using h
    obtain ⟨b0,off0,e0,hb0,hcell0⟩:=hS.2 (by omega)
    subst e0
    clear hend
    go_wp2_with (at_make;refine mk_law _ rfl _ _ rfl _ k rfl rfl rfl (by omega) ?_;intro w1 hnew hrow)
    have hS1:=KEY.out w1 hnew hrow
    go_loopw [5] (fun i wr=>∃ j:Nat,j≤k∧i=.int .i64 j∧Wr w.heap.size 0 (0+k) w1 wr∧Seg wr (some ⟨w.heap.size,0,none⟩) (mix X 0 j) k) (fun i _=>k - (intOf i).toNat)
    case atStart=>exact ⟨0,Nat.zero_le _,rfl,Wr.refl _ _ _ _,by rw [mix_zero];exact hnew.seg⟩
    case round =>
     obtain ⟨j,hj,rfl,hwr,hseg⟩:=hrel
     have hlt1:=hrow.lt
     by_cases hlt:j < k
     ·have hyr:=hS1.wr hwr (HS.out.ne_new (by omega) (Nat.le_refl _))
      have hcell2:=hyr.cells
      have hcx:=hseg.rest j (Nat.le_refl _) hlt
      rw [Nat.zero_add] at hcx
      have hfz:=fun o=>(hwr.row hrow).frozen o
      clear hcell0
      go_wp2
      go_roundw
      case rel =>
       refine ⟨j+1,by omega,by go_num,?_,?_⟩
       ·have:=hwr.setCell (0+j) (by omega) (by omega) (.int .u32 (dg X j:Nat))
        simpa using this
       ·have:=hseg.set hlt (BBp k) (v:=(dg X j:Nat)) rfl
        simpa using this
      case measure=>simp [intOf];omega
     ·have e:j=k:=by omega
      subst e
      go_wp2
      go_ret
      rw [mix_nought HS.out.1] at hseg
      rw [HL.out]
      exact ⟨_,rfl,hseg,hnew.below.trans (hwr.below (Nat.le_refl _) hnew.below.size),fun _=>⟨_,_,rfl,Nat.le_refl _,hwr.row hrow⟩⟩
  ·have hlt:0 < k:=by omega
   have hd0:dg X (k - 1)=0:=by
    by_cases h:dg X (k - 1)=0
    ·exact h
    ·exact absurd (Or.inr h) hend
   have hdb:(((dg X (k - 1):Nat):Int) == 0)=true:=by simp [hd0]
   have HD:Hid (dg X (k - 1)=0):=hd0
   clear hd0 hend
   obtain ⟨b,off,rfl,hb,hcell⟩:=hS.2 (by omega)
   go_wp2
   go_round
   case rel=>exact ⟨k - 1,by omega,by go_num,lt_of_dg_zero (by rw [Nat.sub_add_cancel hlt];exact HT.out) HD.out⟩
   case measure=>simp [intOf];omega
end Go.Proofs.YtlklfkkbdcglbaaGreat
