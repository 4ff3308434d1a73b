import Derived.Test.YtgfmaejhdbmkoaaGreatMem
set_option linter.unusedSimpArgs false
namespace Go.Proofs.YtgfmaejhdbmkoaaGreat
open Go.RowKit
set_option linter.unusedVariables false
def Trm (ao ao':Option Addr) (m:Nat):Prop:=(m=0→ao'=none)∧(0 < m→ao'=ao)
theorem Seg.trm {w:World} {ao ao':Option Addr} {X n:Nat} (h:Seg w ao X n) (t:Trm ao ao' (ln X)):Seg w ao' X (ln X):=by
 refine ⟨xJ3 X,fun h0=>?_⟩
 have hl:=xQ4 h.1
 obtain ⟨b,off,e,hlt,hc⟩:=h.2 (by omega)
 exact ⟨b,off,by rw [t.2 h0];exact e,hlt,fun i hi=>hc i (by omega)⟩
theorem New.trm {w w':World} {ao ao':Option Addr} {X n:Nat} (h:New w w' ao X n) (t:Trm ao ao' (ln X)):New w w' ao' X (ln X):=by
 refine ⟨h.seg.trm t,h.below,fun h0=>?_⟩
 have hl:=xQ4 h.seg.1
 obtain ⟨b,off,e,r⟩:=h.fresh (by omega)
 exact ⟨b,off,by rw [t.2 h0];exact e,r⟩
theorem Trm.ne {ao ao':Option Addr} {m b:Nat} (t:Trm ao ao' m) (h:∀ o,ao≠some ⟨b,o,none⟩):∀ o,ao'≠some ⟨b,o,none⟩:=by
 intro o e
 by_cases h0:m=0
 ·rw [t.1 h0] at e;simp at e
 ·rw [t.2 (by omega)] at e;exact h o e
theorem Trm.ne_new {w:World} {ao ao':Option Addr} {X n b:Nat} (t:Trm ao ao' (ln X)) (h:Seg w ao X n) (hb:w.heap.size≤b):∀ o,ao'≠some ⟨b,o,none⟩:=by
 intro o e
 by_cases h0:ln X=0
 ·rw [t.1 h0] at e;simp at e
 ·obtain ⟨b',off',e',hlt,_⟩:=(h.trm t).2 (by omega)
  rw [e'] at e
  simp only [Option.some.injEq,Addr.mk.injEq] at e
  omega
theorem Seg.ne_new {w:World} {ao:Option Addr} {X n b:Nat} (h:Seg w ao X n) (hn:0 < n) (hb:w.heap.size≤b):∀ o,ao≠some ⟨b,o,none⟩:=by
 intro o e
 obtain ⟨b',off',e',hlt,_⟩:=h.2 hn
 rw [e'] at e
 simp only [Option.some.injEq,Addr.mk.injEq] at e
 omega
theorem beq_zero_of {a:Nat} (h:((a:Nat):Int) == 0):a=0:=by simpa using h
theorem beq_zero_ne {a:Nat} (h:(((a:Nat):Int) == 0)=false):a≠0:=by simpa using h
theorem ret_slice {ao ao':Option Addr} {n n' c c':Nat} (h1:ao=ao') (h2:n=n') (h3:c=c'):Ending.returned (.slice ao n c)=.returned (.slice ao' n' c'):=by rw [h1,h2,h3]
theorem xJ7 {k:IntKind} {a b:Int} (h:a=b):Ending.returned (.int k a)=.returned (.int k b):=by rw [h]
set_option maxHeartbeats 400000 in
theorem xX5 (ao:Option Addr) (n cap X:Nat) (w:World) (hc:n≤cap) (hm:n≤70368744177664) (hS:Seg w ao X n) :
  Calls Tryz.prog 139 #[.slice ao n cap] w fun e w'=>∃ ao',e=.returned (.slice ao' (ln X) (ln X))∧w=w'∧Trm ao ao' (ln X):=by
 go_enter Tryz.func139,Tryz.ntmps139
 go_wp2
 go_loop [3] (fun t=>∃ k:Nat,k≤n∧t=.int .i64 k∧X < BB ^ k) (fun t=>(intOf t).toNat)
 case atStart=>exact ⟨n,Nat.le_refl _,rfl,hS.1⟩
 case round =>
  obtain ⟨k,hk,rfl,ht⟩:=hrel
  have HT:Hid (X < BB ^ k):=ht
  clear ht
  by_cases hlt:0 < k
  ·obtain ⟨b,off,rfl,hb,hcell⟩:=hS.2 (by omega)
   go_wp2
   ·have h0:(((dg X (k - 1):Nat):Int) == 0)=true:=by assumption
    go_round
    case rel=>exact ⟨k - 1,by omega,by go_num,lt_of_dg_zero (by rw [Nat.sub_add_cancel hlt];exact HT.out) (beq_zero_of h0)⟩
    case measure=>simp [intOf];omega
   ·have h0:(((dg X (k - 1):Nat):Int) == 0)=false:=by assumption
    have e:=ln_of_top HT.out (beq_zero_ne h0)
    go_ret
    exact ⟨some ⟨b,off,none⟩,ret_slice rfl (by simp [e]) (by simp [e]),rfl,fun h=>by omega,fun _=>rfl⟩
  ·go_wp2
   have hk0:k=0:=by omega
   subst hk0
   have hX:X=0:=by have:=HT.out;simpa using this
   go_ret
   exact ⟨none,ret_slice rfl (by rw [hX,xX7]) (by rw [hX,xX7]),rfl,fun _=>rfl,fun h=>by rw [hX,xX7] at h;omega⟩
theorem quiet_drewN {P:Program} {f:Nat} {args:Array Value} {v:Value} {w:World} {nq a:Nat} (h:Calls P f args (w.drewN (nq+a)) fun e w'=>e=.returned v∧w'=w.drewN (nq+a)) :
  Calls P f args (w.drewN (nq+a)) fun e w''=>e=.returned v∧∃ n,w''=w.drewN (nq+n):=h.mono fun _ _ ⟨h1,h2⟩=>⟨h1,a,h2⟩
def ordI (v:Bool):Int:=if v then -1 else 1
theorem order_any (v:Bool) (w:World) :
  Calls Tryz.prog 145 #[.bool v] w fun e w'=>e=.returned (.int .i64 (ordI v))∧w'=w:=by
 cases v <;>
 ·go_enter Tryz.func145,Tryz.ntmps145
  go_wp2
  go_ret
  exact ⟨rfl,rfl⟩
set_option maxHeartbeats 400000 in
theorem Norm_any (ao:Option Addr) (n cap X:Nat) (w:World) (hc:n≤cap) (hm:n≤70368744177664) (hS:Seg w ao X n) :
  Calls Tryz.prog 123 #[.slice ao n cap] w fun e w'=>∃ ao',e=.returned (.slice ao' (ln X) (ln X))∧New w w' ao' X (ln X):=by
 have hl:=xQ4 hS.1
 by_cases h0:ln X=0
 ·have HX:Hid (ln X=0):=h0
  have hb:(((ln X:Nat):Int) == 0)=true:=by simp [h0]
  clear h0
  go_enter Tryz.func123,Tryz.ntmps123
  go_wp2_with (go_at_call 139;refine (xX5 _ _ _ X _ hc hm hS).mono ?_;rintro e w' ⟨a1,rfl,rfl,ht⟩;have hT:=hS.trm ht)
  go_ret
  exact ⟨none,ret_slice rfl HX.out.symm HX.out.symm,by rw [HX.out,ln_eq_zero.1 HX.out];exact New.nil _ (Below.refl _ _)⟩
 ·have hb:(((ln X:Nat):Int) == 0)=false:=by simp [h0]
  clear h0
  go_enter Tryz.func123,Tryz.ntmps123
  go_wp2_with (first | (go_at_call 139;refine (xX5 _ _ _ X _ hc hm hS).mono ?_;rintro e w' ⟨a1,rfl,rfl,ht⟩;have hT:=hS.trm ht) | (at_make;refine mk_law _ rfl _ _ rfl _ (ln X) rfl rfl rfl (by omega) ?_;intro w1 hnew hrow) | (with_reducible refine at_copy ?_;refine copy_law rfl _ _ rfl w.heap.size 0 (ln X) _ _ (ln X) _ rfl rfl X 0 hrow hnew.seg (hT.below hnew.below (Nat.le_refl _)) (Nat.le_refl _) ?_;intro w2 hwr hseg))
  go_ret
  refine ⟨some ⟨w.heap.size,0,none⟩,rfl,?_,?_,?_⟩
  ·rw [mix_full (BBp _) (xJ3 X)] at hseg;exact hseg
  ·exact hnew.below.trans (hwr.below (Nat.le_refl _) hnew.below.size)
  ·exact fun _=>⟨_,_,rfl,Nat.le_refl _,hwr.row hrow⟩
theorem or_step {X k:Nat} (hk:k≤1):bits BinOp.or IntKind.u64 ((lo X k:Nat):Int) (IntKind.u64.wrap (((dg X k:Nat):Int)*2 ^ (32*k)))=((lo X (k+1):Nat):Int):=by
 have hd:=xZ2 X k
 have hl:=lo_lt X k
 rw [lo_succ,IntKind.wrap_u64]
 rcases (show k=0∨k=1 by omega) with rfl | rfl
 ·rw [lo_zero]
  have e:((dg X 0:Nat):Int)*2 ^ (32*0) % 18446744073709551616=((dg X 0:Nat):Int):=by simp;omega
  rw [e,u64_or_nat 0 _ (by omega) (by omega)]
  simp
 ·rw [Nat.pow_one,BB_eq] at hl
  have e:((dg X 1:Nat):Int)*2 ^ (32*1) % 18446744073709551616=((dg X 1*4294967296:Nat):Int):=by simp;omega
  rw [e,u64_or_nat _ _ (by omega) (by omega),Nat.or_comm,nat_join 32 _ _ (by omega) (by omega),Nat.pow_one,BB_eq]
  simp;omega
set_option maxHeartbeats 400000 in
theorem word_any (ao:Option Addr) (n cap X:Nat) (w:World) (hm:n≤2) (hS:Seg w ao X n) :
  Calls Tryz.prog 138 #[.slice ao n cap] w fun e w'=>e=.returned (.int .u64 X)∧w=w':=by
 go_enter Tryz.func138,Tryz.ntmps138
 go_wp2
 go_loop [3,7] (fun t i=>∃ k:Nat,k≤n∧i=.int .i64 k∧t=.int .u64 (lo X k:Nat)) (fun _ i=>n - (intOf i).toNat)
 case atStart=>exact ⟨0,Nat.zero_le _,rfl,by rw [lo_zero];rfl⟩
 case round =>
  obtain ⟨k,hk,rfl,rfl⟩:=hrel
  by_cases hlt:k < n
  ·obtain ⟨b,off,rfl,hb,hcell⟩:=hS.2 (by omega)
   have hd:=xZ2 X k
   go_wp2
   go_round
   case rel=>exact ⟨k+1,by omega,by go_num,by rw [or_step (by omega)]⟩
   case measure=>simp [intOf];omega
  ·go_wp2
   go_ret
   have e:k=n:=by omega
   exact ⟨xJ7 (by rw [e,lo_full hS.1]),rfl⟩
theorem pair_new (w:World) (X:Nat) (t:TypeId) (a b:Int) (hX:X < 18446744073709551616) (ha:a=(dg X 0:Nat)) (hb:b=(dg X 1:Nat)) :
  New w (w.alloc (.cells #[.int .u32 a,.int .u32 b] t)) (some ⟨w.heap.size,0,none⟩) X 2:=by
 have hh:(w.alloc (.cells #[.int .u32 a,.int .u32 b] t)).heap[w.heap.size]?=some (.cells #[.int .u32 a,.int .u32 b] t):=by
  show (w.heap.push _)[w.heap.size]?=_
  rw [Array.getElem?_push,if_pos rfl]
 have hr:Row (w.alloc (.cells #[.int .u32 a,.int .u32 b] t)) w.heap.size:=⟨_,t,hh⟩
 refine ⟨Seg.mk' (by rw [BB2];exact hX) hr.lt fun i hi=>?_,(Below.refl _ _).alloc (Nat.le_refl _) _,fun _=>⟨_,_,rfl,Nat.le_refl _,hr⟩⟩
 simp only [World.cell?,hh,Option.isSome_none,Bool.false_eq_true,if_false,Nat.zero_add]
 rcases (show i=0∨i=1 by omega) with rfl | rfl
 ·rw [ha];rfl
 ·rw [hb];rfl
theorem single_new (w:World) (X:Nat) (t:TypeId) (a:Int) (hX:X < 4294967296) (ha:a=(X:Nat)) :
  New w (w.alloc (.cells #[.int .u32 a] t)) (some ⟨w.heap.size,0,none⟩) X 1:=by
 have hh:(w.alloc (.cells #[.int .u32 a] t)).heap[w.heap.size]?=some (.cells #[.int .u32 a] t):=by
  show (w.heap.push _)[w.heap.size]?=_
  rw [Array.getElem?_push,if_pos rfl]
 have hr:Row (w.alloc (.cells #[.int .u32 a] t)) w.heap.size:=⟨_,t,hh⟩
 refine ⟨Seg.mk' (by rw [Nat.pow_one,BB_eq];exact hX) hr.lt fun i hi=>?_,(Below.refl _ _).alloc (Nat.le_refl _) _,fun _=>⟨_,_,rfl,Nat.le_refl _,hr⟩⟩
 simp only [World.cell?,hh,Option.isSome_none,Bool.false_eq_true,if_false,Nat.zero_add]
 rcases (show i=0 by omega) with rfl
 rw [ha,dg0,Nat.mod_eq_of_lt hX];rfl
set_option maxHeartbeats 400000 in
theorem Of_any (n:Nat) (w:World) (hn:n < 18446744073709551616) :
  Calls Tryz.prog 125 #[.int .u64 n] w fun e w'=>∃ ao,e=.returned (.slice ao (ln n) (ln n))∧New w w' ao n (ln n):=by
 have hN:=pair_new w n 89 (n % 4294967296) (n / 4294967296) hn (by rw [dg0];simp) (by rw [dg1];omega)
 go_enter Tryz.func125,Tryz.ntmps125
 go_wp2_with (go_at_call 139;refine (xX5 _ 2 2 n _ (by omega) (by omega) hN.seg).mono ?_;rintro e w' ⟨a1,rfl,rfl,ht⟩)
 go_ret
 exact ⟨_,rfl,hN.trm ht⟩
def cmpI (X Y:Nat):Int:=if X < Y then -1 else if X=Y then 0 else 1
theorem cmpI_lt {X Y:Nat} (h:X < Y):cmpI X Y = -1:=by simp [cmpI,h]
theorem cmpI_eq {X Y:Nat} (h:X=Y):cmpI X Y=0:=by simp [cmpI,h]
theorem cmpI_gt {X Y:Nat} (h:Y < X):cmpI X Y=1:=by unfold cmpI;rw [if_neg (by omega),if_neg (by omega)]
set_option maxHeartbeats 1000000 in
theorem Cmp_any (ao ao2:Option Addr) (n cap X m cap2 Y:Nat) (w:World) (hc:n≤cap) (hm:n≤70368744177664) (hS:Seg w ao X n) (hc2:m≤cap2) (hm2:m≤70368744177664) (hS2:Seg w ao2 Y m) :
  Calls Tryz.prog 134 #[.slice ao n cap,.slice ao2 m cap2] w fun e w'=>e=.returned (.int .i64 (cmpI X Y))∧Dr w w':=by
 have hl:=xQ4 hS.1
 have hl2:=xQ4 hS2.1
 by_cases hlen:ln X=ln Y
 ·have hb:(((ln X:Nat):Int) != ((ln Y:Nat):Int))=false:=by rw [hlen];simp
  have HL:Hid (ln X=ln Y):=hlen
  clear hlen
  go_enter Tryz.func134,Tryz.ntmps134
  go_wp2_with fail
  refine (xX5 _ _ _ X _ hc hm hS).mono ?_
  rintro e w' ⟨a1,rfl,rfl,ht⟩
  have hT:=hS.trm ht
  go_wp2_with fail
  refine (xX5 _ _ _ Y _ hc2 hm2 hS2).mono ?_
  rintro e w' ⟨a2,rfl,rfl,ht2⟩
  have hT2:=hS2.trm ht2
  go_wp2_with fail
  go_loopw [7] (fun t wr=>∃ k:Nat,k≤ln X∧t=.int .i64 ((k:Int) - 1)∧Dr w wr∧X / BB ^ k=Y / BB ^ k) (fun t _=>(intOf t+1).toNat)
  case atStart=>exact ⟨ln X,Nat.le_refl _,rfl,Dr.refl _,by rw [div_big (xJ3 X),HL.out,div_big (xJ3 Y)]⟩
  case round =>
   obtain ⟨k,hk,rfl,hdr,hd⟩:=hrel
   have hTr:=hT.dr hdr
   have hTr2:=hT2.dr hdr
   have HD:Hid (X / BB ^ k=Y / BB ^ k):=hd
   clear hd
   by_cases hlt:0 < k
   ·obtain ⟨b,off,rfl,hb',hcell⟩:=hTr.2 (by omega)
    have hkY:k - 1 < ln Y:=by rw [←HL.out];omega
    obtain ⟨b2,off2,rfl,hb2',hcell2⟩:=hTr2.2 (by omega)
    have h1:=xZ2 X (k - 1)
    have h2:=xZ2 Y (k - 1)
    by_cases hx:dg X (k - 1)=dg Y (k - 1)
    ·have hxb:(((dg X (k - 1):Nat):Int) != ((dg Y (k - 1):Nat):Int))=false:=by rw [hx];simp
     have HX:Hid (dg X (k - 1)=dg Y (k - 1)):=hx
     clear hx
     go_wp2
     go_quiet (fail)
     go_wp2
     go_roundw
     case rel=>exact ⟨k - 1,by omega,by go_num,by repeat (first | assumption | refine Dr.drewN ?_ _),div_eq_of_dg (by rw [Nat.sub_add_cancel hlt];exact HD.out) HX.out⟩
     case measure=>simp [intOf];omega
    ·have hxb:(((dg X (k - 1):Nat):Int) != ((dg Y (k - 1):Nat):Int))=true:=by rw [bne_iff_ne];omega
     go_wp2
     go_quiet (fail)
     go_wp2
     go_quiet ((go_at_call 145;exact quiet_drewN (order_any _ _)))
     go_wp2
     all_goals go_ret
     all_goals refine ⟨xJ7 ?_,by repeat (first | assumption | refine Dr.drewN ?_ _)⟩
     all_goals
      have hd2:X / BB ^ (k - 1+1)=Y / BB ^ (k - 1+1):=by rw [Nat.sub_add_cancel hlt];exact HD.out
      by_cases hxy:dg X (k - 1) < dg Y (k - 1)
      ·rw [cmpI_lt (lt_of_top_dg hd2 hxy)];simp [ordI,hxy]
      ·rw [cmpI_gt (lt_of_top_dg hd2.symm (by omega))];simp [ordI,hxy]
   ·go_wp2
    go_ret
    have hk0:k=0:=by omega
    subst hk0
    have e:X=Y:=by have:=HD.out;simpa using this
    exact ⟨xJ7 (cmpI_eq e).symm,hdr⟩
 ·have hb:(((ln X:Nat):Int) != ((ln Y:Nat):Int))=true:=by rw [bne_iff_ne];omega
  go_enter Tryz.func134,Tryz.ntmps134
  go_wp2_with fail
  refine (xX5 _ _ _ X _ hc hm hS).mono ?_
  rintro e w' ⟨a1,rfl,rfl,ht⟩
  go_wp2_with fail
  refine (xX5 _ _ _ Y _ hc2 hm2 hS2).mono ?_
  rintro e w' ⟨a2,rfl,rfl,ht2⟩
  go_wp2_with (go_at_call 145;refine (order_any _ _).mono ?_;rintro e w' ⟨rfl,rfl⟩)
  go_ret
  refine ⟨xJ7 ?_,Dr.refl _⟩
  by_cases hxy:ln X < ln Y
  ·rw [cmpI_lt (Nat.lt_of_not_le fun h=>by have:=xZ4 h;omega)];simp [ordI,hxy]
  ·rw [cmpI_gt (Nat.lt_of_not_le fun h=>by have:=xZ4 h;omega)];simp [ordI,hxy]
set_option maxHeartbeats 1000000 in
theorem addInto_any (b off n cap X:Nat) (ao:Option Addr) (m cap2 Y:Nat) (w:World) (hm:n≤140737488355328) (hmn:m≤n) (hrow:Row w b) (hS:Seg w (some ⟨b,off,none⟩) X n) (hS2:Seg w ao Y m) (hne:∀ o,ao≠some ⟨b,o,none⟩) :
  Calls Tryz.prog 160 #[.slice (some ⟨b,off,none⟩) n cap,.slice ao m cap2] w fun e w'=>e=.returned (.tuple #[])∧Wr b off (off+n) w w'∧Seg w' (some ⟨b,off,none⟩) ((X+Y) % BB ^ n) n:=by
 have HZ:Hid (∀ k w',k≤n→Seg w' (some ⟨b,off,none⟩) (mix (X+Y) X k) n→(k=n∨(m≤k∧cy X Y k=0))→Seg w' (some ⟨b,off,none⟩) ((X+Y) % BB ^ n) n):=by
  intro k w' hk hs hor
  refine hs.congr (Nat.mod_lt _ (BBp n)) fun i hi=>?_
  rw [dg_mod _ _ _ hi]
  by_cases hik:i < k
  ·rw [dg_mix_lo _ _ hik]
  ·rw [dg_mix_hi _ _ (by omega)]
   rcases hor with h | h
   ·omega
   ·exact add_dg_nocy (Nat.lt_of_lt_of_le hS2.1 (xX4 h.1)) h.2 (by omega)
 go_enter Tryz.func160,Tryz.ntmps160
 go_wp2
 go_loopw [4,11] (fun c i wr=>∃ k:Nat,k≤m∧i=.int .i64 k∧c=.int .u64 (cy X Y k:Nat)∧Wr b off (off+n) w wr∧Seg wr (some ⟨b,off,none⟩) (mix (X+Y) X k) n) (fun _ i _=>m - (intOf i).toNat)
 case atStart=>exact ⟨0,Nat.zero_le _,rfl,by rw [cy_zero];rfl,Wr.refl _ _ _ _,by rw [mix_zero];exact hS⟩
 case round =>
  obtain ⟨k,hk,rfl,rfl,hwr,hseg⟩:=hrel
  have hcy:=cy_le X Y k
  by_cases hlt:k < m
  ·have hcx:=hseg.rest
   have hfz:=fun o=>(hwr.row hrow).frozen o
   have hyr:=hS2.wr hwr hne
   obtain ⟨b2,off2,rfl,hb2,hcell2⟩:=hyr.2 (by omega)
   have h1:=xZ2 X k
   have h2:=xZ2 Y k
   go_wp2
   go_quiet (fail)
   go_wp2
   go_roundw
   case rel =>
    have e1:=add_dg X Y k
    have e2:=add_cy X Y k
    refine ⟨k+1,by omega,by go_num,?_,?_,?_⟩
    ·congr 1;omega
    ·exact (hwr.drewN).setCell (off+k) (by omega) (by omega) _
    ·exact (hseg.drewN).set (by omega) hS.1 (by omega)
   case measure=>simp [intOf];omega
  ·have hkm:k=m:=by omega
   subst hkm
   go_wp2
   go_loopw [4,7] (fun c i wr2=>∃ k2:Nat,k≤k2∧k2≤n∧i=.int .i64 k2∧c=.int .u64 (cy X Y k2:Nat)∧Wr b off (off+n) w wr2∧Seg wr2 (some ⟨b,off,none⟩) (mix (X+Y) X k2) n) (fun _ i _=>n - (intOf i).toNat)
   case atStart=>exact ⟨k,Nat.le_refl _,hmn,rfl,rfl,hwr,hseg⟩
   case round =>
    clear hseg hwr hcy
    obtain ⟨k2,hk2,hkn,rfl,rfl,hwr,hseg⟩:=hrel
    have hcy:=cy_le X Y k2
    by_cases hc0:cy X Y k2=0
    ·have hb0:(((cy X Y k2:Nat):Int) != 0)=false:=by rw [hc0];simp
     have HC:Hid (cy X Y k2=0):=hc0
     clear hc0
     go_wp2
     go_end0
     exact ⟨rfl,hwr,HZ.out k2 _ hkn hseg (Or.inr ⟨hk2,HC.out⟩)⟩
    ·have hb0:(((cy X Y k2:Nat):Int) != 0)=true:=by rw [bne_iff_ne];omega
     by_cases hlt2:k2 < n
     ·have hcx:=hseg.rest
      have hfz:=fun o=>(hwr.row hrow).frozen o
      have h1:=xZ2 X k2
      go_wp2
      go_roundw
      case rel =>
       have e1:=add_dg X Y k2
       have e2:=add_cy X Y k2
       have e3:dg Y k2=0:=dg_big (Nat.lt_of_lt_of_le hS2.1 (xX4 hk2))
       refine ⟨k2+1,by omega,by omega,by go_num,?_,?_,?_⟩
       ·congr 1;omega
       ·exact hwr.setCell (off+k2) (by omega) (by omega) _
       ·exact hseg.set hlt2 hS.1 (by omega)
      case measure=>simp [intOf];omega
     ·go_wp2
      go_end0
      exact ⟨rfl,hwr,HZ.out k2 _ hkn hseg (Or.inl (by omega))⟩
theorem sub_val {x y c z d:Nat} (h:z+y+c=x+4294967296*d) (hx:x < 4294967296) (hy:y < 4294967296) (hz:z < 4294967296) (hc:c≤1) (hd:d≤1) :
  IntKind.u64.wrap (IntKind.u64.wrap ((x:Int) - (y:Int)) - (c:Int)) % 4294967296=(z:Nat)∧IntKind.u64.wrap (IntKind.u64.wrap ((x:Int) - (y:Int)) - (c:Int)) / 9223372036854775808=(d:Nat):=by
 rw [IntKind.wrap_u64,IntKind.wrap_u64]
 omega
theorem sub_val1 {x c z d:Nat} (h:z+c=x+4294967296*d) (hx:x < 4294967296) (hz:z < 4294967296) (hc:c≤1) (hd:d≤1) :
  IntKind.u64.wrap ((x:Int) - (c:Int)) % 4294967296=(z:Nat)∧IntKind.u64.wrap ((x:Int) - (c:Int)) / 9223372036854775808=(d:Nat):=by
 rw [IntKind.wrap_u64]
 omega
set_option maxHeartbeats 1000000 in
theorem subFrom_any (b off n cap X:Nat) (ao:Option Addr) (m cap2 Y:Nat) (w:World) (hm:n≤140737488355328) (hmn:m≤n) (hrow:Row w b) (hS:Seg w (some ⟨b,off,none⟩) X n) (hS2:Seg w ao Y m) (hne:∀ o,ao≠some ⟨b,o,none⟩) (hle:Y≤X) :
  Calls Tryz.prog 163 #[.slice (some ⟨b,off,none⟩) n cap,.slice ao m cap2] w fun e w'=>e=.returned (.tuple #[])∧Wr b off (off+n) w w'∧Seg w' (some ⟨b,off,none⟩) (X - Y) n:=by
 have HZ:Hid (∀ k w',k≤n→Seg w' (some ⟨b,off,none⟩) (mix (X - Y) X k) n→(k=n∨(m≤k∧bw X Y k=0))→Seg w' (some ⟨b,off,none⟩) (X - Y) n):=by
  intro k w' hk hs hor
  refine hs.congr (Nat.lt_of_le_of_lt (Nat.sub_le _ _) hS.1) fun i hi=>?_
  by_cases hik:i < k
  ·rw [dg_mix_lo _ _ hik]
  ·rw [dg_mix_hi _ _ (by omega)]
   rcases hor with h | h
   ·omega
   ·exact sub_dg_nobw hle (Nat.lt_of_lt_of_le hS2.1 (xX4 h.1)) h.2 (by omega)
 have HL:Hid (Y≤X):=hle
 clear hle
 go_enter Tryz.func163,Tryz.ntmps163
 go_wp2
 go_loopw [4,11] (fun c i wr=>∃ k:Nat,k≤m∧i=.int .i64 k∧c=.int .u64 (bw X Y k:Nat)∧Wr b off (off+n) w wr∧Seg wr (some ⟨b,off,none⟩) (mix (X - Y) X k) n) (fun _ i _=>m - (intOf i).toNat)
 case atStart=>exact ⟨0,Nat.zero_le _,rfl,by rw [bw_zero];rfl,Wr.refl _ _ _ _,by rw [mix_zero];exact hS⟩
 case round =>
  obtain ⟨k,hk,rfl,rfl,hwr,hseg⟩:=hrel
  have hcy:=bw_le X Y k
  by_cases hlt:k < m
  ·have hcx:=hseg.rest
   have hfz:=fun o=>(hwr.row hrow).frozen o
   have hyr:=hS2.wr hwr hne
   obtain ⟨b2,off2,rfl,hb2,hcell2⟩:=hyr.2 (by omega)
   have h1:=xZ2 X k
   have h2:=xZ2 Y k
   go_wp2
   go_quiet (fail)
   go_wp2
   go_roundw
   case rel =>
    have e:=sub_val (sub_step k HL.out) h1 h2 (xZ2 _ _) hcy (bw_le _ _ _)
    refine ⟨k+1,by omega,by go_num,?_,?_,?_⟩
    ·rw [e.2]
    ·exact (hwr.drewN).setCell (off+k) (by omega) (by omega) _
    ·exact (hseg.drewN).set (by omega) hS.1 e.1
   case measure=>simp [intOf];omega
  ·have hkm:k=m:=by omega
   subst hkm
   go_wp2
   go_loopw [4,7] (fun c i wr2=>∃ k2:Nat,k≤k2∧k2≤n∧i=.int .i64 k2∧c=.int .u64 (bw X Y k2:Nat)∧Wr b off (off+n) w wr2∧Seg wr2 (some ⟨b,off,none⟩) (mix (X - Y) X k2) n) (fun _ i _=>n - (intOf i).toNat)
   case atStart=>exact ⟨k,Nat.le_refl _,hmn,rfl,rfl,hwr,hseg⟩
   case round =>
    clear hseg hwr hcy
    obtain ⟨k2,hk2,hkn,rfl,rfl,hwr,hseg⟩:=hrel
    have hcy:=bw_le X Y k2
    by_cases hc0:bw X Y k2=0
    ·have hb0:(((bw X Y k2:Nat):Int) != 0)=false:=by rw [hc0];simp
     have HC:Hid (bw X Y k2=0):=hc0
     clear hc0
     go_wp2
     go_end0
     exact ⟨rfl,hwr,HZ.out k2 _ hkn hseg (Or.inr ⟨hk2,HC.out⟩)⟩
    ·have hb0:(((bw X Y k2:Nat):Int) != 0)=true:=by rw [bne_iff_ne];omega
     by_cases hlt2:k2 < n
     ·have hcx:=hseg.rest
      have hfz:=fun o=>(hwr.row hrow).frozen o
      have h1:=xZ2 X k2
      go_wp2
      go_roundw
      case rel =>
       have e3:dg Y k2=0:=dg_big (Nat.lt_of_lt_of_le hS2.1 (xX4 hk2))
       have e0:=sub_step k2 HL.out
       rw [e3,Nat.add_zero] at e0
       have e:=sub_val1 e0 h1 (xZ2 _ _) hcy (bw_le _ _ _)
       refine ⟨k2+1,by omega,by omega,by go_num,?_,?_,?_⟩
       ·rw [e.2]
       ·exact hwr.setCell (off+k2) (by omega) (by omega) _
       ·exact hseg.set hlt2 hS.1 e.1
      case measure=>simp [intOf];omega
     ·go_wp2
      go_end0
      exact ⟨rfl,hwr,HZ.out k2 _ hkn hseg (Or.inl (by omega))⟩
set_option maxHeartbeats 1000000 in
theorem Add_any (ao ao2:Option Addr) (n cap X m cap2 Y:Nat) (w:World) (hc:n≤cap) (hm:n≤70368744177663) (hS:Seg w ao X n) (hc2:m≤cap2) (hm2:m≤70368744177663) (hS2:Seg w ao2 Y m) :
  Calls Tryz.prog 154 #[.slice ao n cap,.slice ao2 m cap2] w fun e w'=>∃ ao',e=.returned (.slice ao' (ln (X+Y)) (ln (X+Y)))∧New w w' ao' (X+Y) (ln (X+Y)):=by
 have hl:=xQ4 hS.1
 have hl2:=xQ4 hS2.1
 by_cases hlt:ln X < ln Y
 ·go_enter Tryz.func154,Tryz.ntmps154
  go_wp2_with fail
  refine (xX5 _ _ _ X _ hc (by omega) hS).mono ?_
  rintro e w' ⟨a1,rfl,rfl,ht⟩
  have hT:=hS.trm ht
  go_wp2_with fail
  refine (xX5 _ _ _ Y _ hc2 (by omega) hS2).mono ?_
  rintro e w' ⟨a2,rfl,rfl,ht2⟩
  have hT2:=hS2.trm ht2
  go_wp2_with (first | (at_make;refine mk_law _ rfl _ _ rfl _ (ln Y+1) rfl rfl (by go_num) (by omega) ?_;intro w1 hnew hrow) | (with_reducible refine at_copy ?_;refine copy_law rfl _ _ rfl w.heap.size 0 (ln Y+1) _ _ (ln Y) _ rfl rfl Y 0 hrow hnew.seg (hT2.below hnew.below (Nat.le_refl _)) (by omega) ?_;intro w2 hwr hseg))
  have hlt1:w.heap.size < w1.heap.size:=hrow.lt
  rw [mix_nought (xJ3 Y)] at hseg
  have hne:=ht.ne_new hS (Nat.le_refl w.heap.size)
  have hB2:Below w.heap.size w w2:=hnew.below.trans (hwr.below (Nat.le_refl _) hnew.below.size)
  refine (addInto_any _ _ _ _ Y _ _ _ X _ (by omega) (by omega) (hwr.row hrow) hseg (hT.below hB2 (Nat.le_refl _)) hne).mono ?_
  rintro e w3 ⟨rfl,hwr3,hseg3⟩
  go_wp2_with fail
  have hsum:(Y+X) % BB ^ (ln Y+1)=X+Y:=by
   rw [Nat.mod_eq_of_lt,Nat.add_comm]
   have h1:=xJ3 Y
   have h2:=xJ3 X
   have h3:=xX4 (show ln X≤ln Y by omega)
   have h4:=BBp (ln Y)
   rw [xQ7,BB_eq]
   rw [BB_eq] at h1 h2 h3 h4
   omega
  rw [hsum] at hseg3
  have hN:New w w3 (some ⟨w.heap.size,0,none⟩) (X+Y) (ln Y+1):=⟨hseg3,hB2.trans (hwr3.below (Nat.le_refl _) hB2.size),fun _=>⟨_,_,rfl,Nat.le_refl _,hwr3.row (hwr.row hrow)⟩⟩
  refine (xX5 _ _ _ (X+Y) _ (by omega) (by omega) hseg3).mono ?_
  rintro e w4 ⟨a4,rfl,rfl,ht4⟩
  go_wp2
  go_ret
  exact ⟨_,rfl,hN.trm ht4⟩
 ·go_enter Tryz.func154,Tryz.ntmps154
  go_wp2_with fail
  refine (xX5 _ _ _ X _ hc (by omega) hS).mono ?_
  rintro e w' ⟨a1,rfl,rfl,ht⟩
  have hT:=hS.trm ht
  go_wp2_with fail
  refine (xX5 _ _ _ Y _ hc2 (by omega) hS2).mono ?_
  rintro e w' ⟨a2,rfl,rfl,ht2⟩
  have hT2:=hS2.trm ht2
  go_wp2_with (first | (at_make;refine mk_law _ rfl _ _ rfl _ (ln X+1) rfl rfl (by go_num) (by omega) ?_;intro w1 hnew hrow) | (with_reducible refine at_copy ?_;refine copy_law rfl _ _ rfl w.heap.size 0 (ln X+1) _ _ (ln X) _ rfl rfl X 0 hrow hnew.seg (hT.below hnew.below (Nat.le_refl _)) (by omega) ?_;intro w2 hwr hseg))
  have hlt1:w.heap.size < w1.heap.size:=hrow.lt
  rw [mix_nought (xJ3 X)] at hseg
  have hne:=ht2.ne_new hS2 (Nat.le_refl w.heap.size)
  have hB2:Below w.heap.size w w2:=hnew.below.trans (hwr.below (Nat.le_refl _) hnew.below.size)
  refine (addInto_any _ _ _ _ X _ _ _ Y _ (by omega) (by omega) (hwr.row hrow) hseg (hT2.below hB2 (Nat.le_refl _)) hne).mono ?_
  rintro e w3 ⟨rfl,hwr3,hseg3⟩
  go_wp2_with fail
  have hsum:(X+Y) % BB ^ (ln X+1)=X+Y:=by
   rw [Nat.mod_eq_of_lt]
   have h1:=xJ3 X
   have h2:=xJ3 Y
   have h3:=xX4 (show ln Y≤ln X by omega)
   have h4:=BBp (ln X)
   rw [xQ7,BB_eq]
   rw [BB_eq] at h1 h2 h3 h4
   omega
  rw [hsum] at hseg3
  have hN:New w w3 (some ⟨w.heap.size,0,none⟩) (X+Y) (ln X+1):=⟨hseg3,hB2.trans (hwr3.below (Nat.le_refl _) hB2.size),fun _=>⟨_,_,rfl,Nat.le_refl _,hwr3.row (hwr.row hrow)⟩⟩
  refine (xX5 _ _ _ (X+Y) _ (by omega) (by omega) hseg3).mono ?_
  rintro e w4 ⟨a4,rfl,rfl,ht4⟩
  go_wp2
  go_ret
  exact ⟨_,rfl,hN.trm ht4⟩
theorem subFrom_nil (ao ao2:Option Addr) (c c2:Nat) (w:World) :
  Calls Tryz.prog 163 #[.slice ao 0 c,.slice ao2 0 c2] w fun e w'=>e=.returned (.tuple #[])∧w=w':=by
 go_enter Tryz.func163,Tryz.ntmps163
 go_wp2
 go_loop [4,11] (fun c i=>c=.int .u64 0∧i=.int .i64 0) (fun _ _=>0)
 case atStart=>exact ⟨rfl,rfl⟩
 case round =>
  obtain ⟨rfl,rfl⟩:=hrel
  go_wp2
  go_loop [4,7] (fun c i=>c=.int .u64 0∧i=.int .i64 0) (fun _ _=>0)
  case atStart=>exact ⟨rfl,rfl⟩
  case round =>
   obtain ⟨rfl,rfl⟩:=hrel
   go_wp2
   go_end0
   exact ⟨rfl,rfl⟩
set_option maxHeartbeats 1000000 in
theorem Sub_any (ao ao2:Option Addr) (n cap X m cap2 Y:Nat) (w:World) (hc:n≤cap) (hm:n≤70368744177664) (hS:Seg w ao X n) (hc2:m≤cap2) (hm2:m≤70368744177664) (hS2:Seg w ao2 Y m) (hle:Y≤X) :
  Calls Tryz.prog 155 #[.slice ao n cap,.slice ao2 m cap2] w fun e w'=>∃ ao',e=.returned (.tuple #[.slice ao' (ln (X - Y)) (ln (X - Y)),.int .i64 0])∧New w w' ao' (X - Y) (ln (X - Y)):=by
 have hl:=xQ4 hS.1
 have hl2:=xQ4 hS2.1
 have hlm:=xZ4 hle
 have HL:Hid (Y≤X):=hle
 have hb:¬ cmpI X Y < 0:=by unfold cmpI;split;omega;split <;> simp
 clear hle
 go_enter Tryz.func155,Tryz.ntmps155
 go_wp2_with fail
 refine (Cmp_any _ _ _ _ X _ _ Y _ hc hm hS hc2 hm2 hS2).mono ?_
 rintro e w' ⟨rfl,hdr⟩
 go_wp2_with fail
 refine (Norm_any _ _ _ X _ hc hm (hS.dr hdr)).mono ?_
 rintro e w1 ⟨a1,rfl,hn1⟩
 go_wp2_with fail
 refine (xX5 _ _ _ Y _ hc2 hm2 ((hS2.dr hdr).below hn1.below (Nat.le_refl _))).mono ?_
 rintro e w2 ⟨a2,rfl,rfl,ht2⟩
 have hT2:=((hS2.dr hdr).below hn1.below (Nat.le_refl _)).trm ht2
 go_wp2_with fail
 by_cases h0:ln X=0
 ·have hX:=ln_eq_zero.1 h0
  have hY:Y=0:=by have:=HL.out;omega
  subst hX hY
  rw [xX7]
  refine (subFrom_nil _ _ _ _ _).mono ?_
  rintro e w2 ⟨rfl,rfl⟩
  go_wp2_with fail
  refine (xX5 _ _ _ 0 _ (Nat.le_refl _) (by omega) (Seg.nil _ _)).mono ?_
  rintro e w2 ⟨a3,rfl,rfl,ht3⟩
  rw [xX7]
  go_wp2
  go_ret2
  exact ⟨a3,by rw [Nat.sub_self,xX7];rfl,by rw [Nat.sub_self,xX7];exact New.nil _ ((hdr.below _).trans (hn1.below.mono (by obtain ⟨q,rfl⟩:=hdr;exact Nat.le_refl _)))⟩
 ·obtain ⟨b,off,rfl,hfr,hrow⟩:=hn1.fresh (by omega)
  have hsz:w'.heap.size=w.heap.size:=by obtain ⟨q,rfl⟩:=hdr;rfl
  have hne:∀ o,a2≠some ⟨b,o,none⟩:=by
   by_cases hy0:ln Y=0
   ·intro o e;rw [ht2.1 hy0] at e;simp at e
   ·exact ((hS2.dr hdr).trm ht2).ne_new (by omega) hfr
  refine (subFrom_any _ _ _ _ X _ _ _ Y _ (by omega) hlm hrow hn1.seg hT2 hne HL.out).mono ?_
  rintro e w3 ⟨rfl,hwr3,hseg3⟩
  have hN:New w w3 (some ⟨b,off,none⟩) (X - Y) (ln X):=⟨hseg3,(hdr.below _).trans ((hn1.below.mono (by omega)).trans (hwr3.below (by omega) (by have:=hn1.below.size;omega))),fun _=>⟨_,_,rfl,by omega,hwr3.row hrow⟩⟩
  go_wp2_with fail
  refine (xX5 _ _ _ (X - Y) _ (Nat.le_refl _) (by omega) hseg3).mono ?_
  rintro e w4 ⟨a4,rfl,rfl,ht4⟩
  go_wp2
  go_ret2
  exact ⟨_,rfl,hN.trm ht4⟩
theorem Sub_below (ao ao2:Option Addr) (n cap X m cap2 Y:Nat) (w:World) (hc:n≤cap) (hm:n≤70368744177664) (hS:Seg w ao X n) (hc2:m≤cap2) (hm2:m≤70368744177664) (hS2:Seg w ao2 Y m) (hlt:X < Y) :
  Calls Tryz.prog 155 #[.slice ao n cap,.slice ao2 m cap2] w fun e w'=>e=.returned (.tuple #[.slice none 0 0,.int .i64 10])∧Dr w w':=by
 have hb:cmpI X Y < 0:=by rw [cmpI_lt hlt];omega
 clear hlt
 go_enter Tryz.func155,Tryz.ntmps155
 go_wp2_with fail
 refine (Cmp_any _ _ _ _ X _ _ Y _ hc hm hS hc2 hm2 hS2).mono ?_
 rintro e w' ⟨rfl,hdr⟩
 go_wp2
 go_ret2
 exact ⟨rfl,hdr⟩
end Go.Proofs.YtgfmaejhdbmkoaaGreat
