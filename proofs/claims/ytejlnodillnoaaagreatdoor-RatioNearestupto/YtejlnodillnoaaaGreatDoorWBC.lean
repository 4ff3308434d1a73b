import Derived.Test.YtejlnodillnoaaaGreatDoorOpenQ
import Derived.Deep.Slices
import Derived.Test.YtejlnodillnoaaaGreatDoorNumQ
import Derived.Test.YtejlnodillnoaaaGreatDoorWQ9
import Derived.Test.YtejlnodillnoaaaGreatDoorWQ3
import Derived.Test.YtejlnodillnoaaaGreatDoorWQ5
import Derived.Test.YtejlnodillnoaaaGreatDoorWQN
import Derived.Test.YtejlnodillnoaaaGreatDoorWQA
import Derived.Test.YtejlnodillnoaaaGreatDoorWQD
import Derived.Test.YtejlnodillnoaaaGreatDoorWQE
import Derived.Test.YtejlnodillnoaaaGreatDoorWQG
import Derived.Test.YtejlnodillnoaaaGreatDoorWQI
import Derived.Test.YtejlnodillnoaaaGreatDoorWQ7
import Derived.Test.YtejlnodillnoaaaGreatDoorRegS
import Derived.Test.YtejlnodillnoaaaGreatDoorWJ7
import Derived.Test.YtejlnodillnoaaaGreatDoorNumN4
set_option linter.unusedSimpArgs false
namespace Go.Proofs.YtejlnodillnoaaaGreatDoor
open Go.ChangeShapes Go.WideShapes Go.ChangeAt Go.RowKit Go.Deep
set_option linter.unusedVariables false
structure RatV where
 s:Bool
 a:Option Addr
 n:Nat
 c:Nat
 X:Nat
 b:Option Addr
 m:Nat
 e:Nat
 Y:Nat
instance:Inhabited RatV:=⟨⟨false,none,0,0,0,none,0,0,0⟩⟩
def RatV.ok (W:World) (q:RatV):Prop:=Seg W q.a q.X q.n∧q.n≤q.c∧q.n≤35184372087808∧Seg W q.b q.Y q.m∧q.m≤q.e∧q.m≤35184372087808
def RatV.lies (W:World) (b off:Nat) (q:RatV):Prop :=
 W.cell? ⟨b,off,none⟩=some (.bool q.s)∧W.cell? ⟨b,off+1,none⟩=some (.slice q.a q.n q.c)∧W.cell? ⟨b,off+2,none⟩=some (.slice q.b q.m q.e)
def lq (q:Nat→RatV) (n:Nat):List (Int × Nat):=(List.range n).map fun i=>(rn (q i).s (q i).X (q i).Y,rd (q i).Y)
def RatV.val (q:RatV):Rat:=Rat.divInt (rn q.s q.X q.Y) ((rd q.Y:Nat):Int)
theorem low_of {A D:Int} {r:Rat} (hD:D≠0) (h:r=Rat.divInt A D):Low A D r.num r.den:=by
 refine ⟨hD,r.den_pos,?_,r.reduced⟩
 have hd:(r.den:Int)≠0:=by have:=r.den_pos;omega
 have e:Rat.divInt r.num r.den=Rat.divInt A D:=by rw [Rat.num_divInt_den];exact h
 exact (Rat.divInt_eq_divInt_iff hd hD).1 e
theorem RatV.val_low (q:RatV):Low (rn q.s q.X q.Y) ((rd q.Y:Nat):Int) q.val.num q.val.den:=low_of (rd_ne _) rfl
theorem val_of (r:Rat) (a b:Option Addr):(⟨ng r.num,a,ln (am r.num),ln (am r.num),am r.num,b,ln r.den,ln r.den,r.den⟩:RatV).val=r:=by
 unfold RatV.val
 show Rat.divInt (rn (ng r.num) (am r.num) r.den) ((rd r.den:Nat):Int)=r
 rw [rn_nf r.den_pos,rd_nf r.den_pos,Rat.num_divInt_den]
abbrev Fo:=List (Int × Rat)
def co (x:Int):Fo→Rat
 | []=>0
 | p :: l=>(if p.1=x then p.2 else 0)+co x l
def nrm (l:Fo):Prop:=l.Pairwise (fun a b=>a.1 < b.1)∧∀ p∈l,p.2≠0
theorem co_zero {x:Int}:∀ {l:Fo},(∀ p∈l,p.1≠x)→co x l=0
 | [],_=>rfl
 | p :: l,h=>by
  simp only [co]
  rw [if_neg (h p List.mem_cons_self),co_zero fun q hq=>h q (List.mem_cons_of_mem _ hq)]
  exact Rat.add_zero _
theorem nrm.tail {p:Int × Rat} {l:Fo} (h:nrm (p :: l)):nrm l:=⟨(List.pairwise_cons.1 h.1).2,fun q hq=>h.2 q (List.mem_cons_of_mem _ hq)⟩
theorem nrm.head {p:Int × Rat} {l:Fo} (h:nrm (p :: l)):∀ q∈l,p.1 < q.1:=(List.pairwise_cons.1 h.1).1
theorem nrm.nil:nrm []:=⟨List.Pairwise.nil,fun p hp=>absurd hp (by simp)⟩
theorem nrm.co_head {p:Int × Rat} {l:Fo} (h:nrm (p :: l)):co p.1 (p :: l)=p.2:=by
 simp only [co,if_true]
 rw [co_zero fun q hq=>by have:=h.head q hq;omega]
 exact Rat.add_zero _
theorem nrm.below {p:Int × Rat} {l:Fo} {x:Int} (h:nrm (p :: l)) (hx:x < p.1):co x (p :: l)=0 :=
 co_zero fun q hq=>by
  rcases List.mem_cons.1 hq with rfl | hq
  ·omega
  ·have:=h.head q hq;omega
theorem nrm.uniq:∀ {l m:Fo},nrm l→nrm m→(∀ x,co x l=co x m)→l=m
 | [],[],_,_,_=>rfl
 | [],q :: m,_,hm,h=>by
  have:=h q.1
  rw [hm.co_head] at this
  exact absurd this.symm (hm.2 q List.mem_cons_self)
 | p :: l,[],hl,_,h=>by
  have:=h p.1
  rw [hl.co_head] at this
  exact absurd this (hl.2 p List.mem_cons_self)
 | p :: l,q :: m,hl,hm,h=>by
  have e1:p.1=q.1:=by
   rcases Int.lt_trichotomy p.1 q.1 with h1 | h1 | h1
   ·have:=h p.1
    rw [hl.co_head,hm.below h1] at this
    exact absurd this (hl.2 p List.mem_cons_self)
   ·exact h1
   ·have:=h q.1
    rw [hm.co_head,hl.below h1] at this
    exact absurd this.symm (hm.2 q List.mem_cons_self)
  have e2:p.2=q.2:=by
   have:=h p.1
   rw [hl.co_head,e1,hm.co_head] at this
   exact this
  have e:p=q:=Prod.ext e1 e2
  subst e
  rw [nrm.uniq hl.tail hm.tail fun x=>by
   have:=h x
   simp only [co] at this
   grind]
theorem nrm.cons {p:Int × Rat} {l:Fo} (h:nrm l) (h1:∀ q∈l,p.1 < q.1) (h2:p.2≠0):nrm (p :: l) :=
 ⟨List.pairwise_cons.2 ⟨h1,h.1⟩,fun q hq=>by
  rcases List.mem_cons.1 hq with rfl | hq
  ·exact h2
  ·exact h.2 q hq⟩
def wt (r:Rat):Nat:=ln (am r.num)+ln r.den+1
def wts:Fo→Nat
 | []=>0
 | p :: l=>wt p.2+wts l
theorem co_le (x:Int):∀ (l:Fo),∃ (A:Int) (D:Nat),0 < D∧co x l=Rat.divInt A (D:Nat)∧am A≤BB ^ wts l∧D≤BB ^ wts l
 | []=>⟨0,1,Nat.one_pos,by rw [Rat.zero_divInt];rfl,Nat.zero_le _,Nat.le_refl _⟩
 | p :: l=>by
  obtain ⟨A,D,hD,e,h1,h2⟩:=co_le x l
  have hB:∀ {i j:Nat},i≤j→BB ^ i≤BB ^ j:=fun h=>pow_mono h
  simp only [co,wts]
  split
  ·obtain ⟨r,hr⟩:∃ r,p.2=r:=⟨_,rfl⟩
   rw [hr]
   have hd:=r.den_pos
   refine ⟨r.num*(D:Nat)+A*(r.den:Nat),r.den*D,Nat.mul_pos hd hD,?_,?_⟩
   ·rw [e]
    have:=Rat.divInt_add_divInt r.num A (d₁:=(r.den:Int)) (d₂:=((D:Nat):Int)) (by omega) (by omega)
    rw [Rat.num_divInt_den] at this
    rw [this,Int.natCast_mul]
   ·have k1:am r.num≤BB ^ ln (am r.num):=Nat.le_of_lt (ln_lt _)
    have k2:r.den≤BB ^ ln r.den:=Nat.le_of_lt (ln_lt _)
    have p1:r.den*D≤BB ^ (ln r.den+wts l):=by rw [Nat.pow_add];exact Nat.mul_le_mul k2 h2
    have p2:am (r.num*(D:Nat))≤BB ^ (ln (am r.num)+wts l):=by rw [am_mul,Nat.pow_add];exact Nat.mul_le_mul k1 h2
    have p3:am (A*(r.den:Nat))≤BB ^ (wts l+ln r.den):=by rw [am_mul,Nat.pow_add];exact Nat.mul_le_mul h1 k2
    have q1:BB ^ (ln r.den+wts l)≤BB ^ (ln (am r.num)+ln r.den+wts l):=hB (by omega)
    have q2:BB ^ (ln (am r.num)+wts l)≤BB ^ (ln (am r.num)+ln r.den+wts l):=hB (by omega)
    have q3:BB ^ (wts l+ln r.den)≤BB ^ (ln (am r.num)+ln r.den+wts l):=hB (by omega)
    have p6:BB ^ (wt r+wts l)=BB ^ (ln (am r.num)+ln r.den+wts l)*BB:=by rw [←Nat.pow_succ];congr 1;unfold wt;omega
    have p7:am (r.num*(D:Nat)+A*(r.den:Nat))≤am (r.num*(D:Nat))+am (A*(r.den:Nat)):=Int.natAbs_add_le _ _
    rw [p6]
    generalize BB ^ (ln (am r.num)+ln r.den+wts l)=T at *
    have p8:T*2≤T*BB:=Nat.mul_le_mul_left _ (by rw [BB_eq];omega)
    constructor <;> omega
  ·refine ⟨A,D,hD,by rw [e,Rat.zero_add],Nat.le_trans h1 (hB (by omega)),Nat.le_trans h2 (hB (by omega))⟩
def sz (N:Nat) (r:Rat):Prop:=ln (am r.num)≤N∧ln r.den≤N
theorem co_sz (x:Int) (l:Fo):sz (wts l+1) (co x l):=by
 obtain ⟨A,D,hD,e,h1,h2⟩:=co_le x l
 have hl:BB ^ wts l < BB ^ (wts l+1):=by
  rw [Nat.pow_succ]
  have:0 < BB ^ wts l:=by rw [BB_eq];exact Nat.pow_pos (by omega)
  have h3:BB ^ wts l*2≤BB ^ wts l*BB:=Nat.mul_le_mul_left _ (by rw [BB_eq];omega)
  omega
 exact ln1 (low_of (by omega) e) (Nat.lt_of_le_of_lt h1 hl) (by show am ((D:Nat):Int) < _;exact Nat.lt_of_le_of_lt h2 hl) (Nat.le_refl _) (Nat.le_refl _)
theorem sz.mono {N M:Nat} {r:Rat} (h:sz N r) (hM:N≤M):sz M r:=⟨Nat.le_trans h.1 hM,Nat.le_trans h.2 hM⟩
open Go.RowKit
set_option maxHeartbeats 4000000 in
set_option maxRecDepth 100000 in
theorem qSub_is (s0:Bool) (a0:Option Addr) (n0 c0 X0:Nat) (b0:Option Addr) (m0 d0 Y0:Nat) (s1:Bool) (a1:Option Addr) (n1 c1 X1:Nat) (b1:Option Addr) (m1 d1 Y1:Nat) (Z:Int) (V:Nat) (w:World) (hc0:n0≤c0) (hm0:n0≤35184372088000) (hS0:Seg w a0 X0 n0) (hd0:m0≤d0) (hk0:m0≤35184372088000) (hT0:Seg w b0 Y0 m0) (hc1:n1≤c1) (hm1:n1≤35184372088000) (hS1:Seg w a1 X1 n1) (hd1:m1≤d1) (hk1:m1≤35184372088000) (hT1:Seg w b1 Y1 m1) (hL:Low (rn s0 X0 Y0*(rd Y1:Nat)+-(rn s1 X1 Y1)*(rd Y0:Nat)) ((rd Y0:Nat)*(rd Y1:Nat)) Z V) :
  Calls Tryz.prog 89 #[Value.agg #[Value.bool s0,Value.slice a0 n0 c0,Value.slice b0 m0 d0],Value.agg #[Value.bool s1,Value.slice a1 n1 c1,Value.slice b1 m1 d1]] w fun e w'=>∃ p q,e=.returned (.agg #[.bool (ng Z),.slice p (ln (am Z)) (ln (am Z)),.slice q (ln V) (ln V)])∧New w w' p (am Z) (ln (am Z))∧New w w' q V (ln V):=by
 have HL:=hide' hL
 clear hL
 go_enter Tryz.func89,Tryz.ntmps89
 go_wp2_with fail
 obtain ⟨W,hW⟩:∃ W,(((w.alloc (.cells #[.bool s0,.slice a0 n0 c0,.slice b0 m0 d0] 27)).alloc (.cells #[.bool s1,.slice a1 n1 c1,.slice b1 m1 d1] 27)).alloc (.cells #[.bool false,.slice none 0 0,.slice none 0 0] 27))=W:=⟨_,rfl⟩
 have q00:W.cell? ⟨w.heap.size,0,none⟩=some (.bool s0):=by subst hW;go_simp
 have q01:W.cell? ⟨w.heap.size,1,none⟩=some (.slice a0 n0 c0):=by subst hW;go_simp
 have q02:W.cell? ⟨w.heap.size,2,none⟩=some (.slice b0 m0 d0):=by subst hW;go_simp
 have q10:W.cell? ⟨w.heap.size+1,0,none⟩=some (.bool s1):=by subst hW;go_simp
 have q11:W.cell? ⟨w.heap.size+1,1,none⟩=some (.slice a1 n1 c1):=by subst hW;go_simp
 have q12:W.cell? ⟨w.heap.size+1,2,none⟩=some (.slice b1 m1 d1):=by subst hW;go_simp
 have r00:W.cell? ⟨w.heap.size+1+1,0,none⟩=some (.bool false):=by subst hW;go_simp
 have r01:W.cell? ⟨w.heap.size+1+1,1,none⟩=some (.slice none 0 0):=by subst hW;go_simp
 have r02:W.cell? ⟨w.heap.size+1+1,2,none⟩=some (.slice none 0 0):=by subst hW;go_simp
 have hB:Below w.heap.size w W:=by subst hW;exact ((((Below.refl _ _).alloc (by (try simp only [World.size_alloc]);omega) _).alloc (by (try simp only [World.size_alloc]);omega) _).alloc (by (try simp only [World.size_alloc]);omega) _)
 have hR0:Row W (w.heap.size+1+1):=by
  have:=row_new (((w.alloc (.cells #[.bool s0,.slice a0 n0 c0,.slice b0 m0 d0] 27)).alloc (.cells #[.bool s1,.slice a1 n1 c1,.slice b1 m1 d1] 27))) #[.bool false,.slice none 0 0,.slice none 0 0] 27
  try simp only [World.size_alloc] at this
  subst hW;exact this
 have hz:W.heap.size=w.heap.size+1+1+1:=by subst hW;simp only [World.size_alloc]
 rw [hW]
 clear hW
 have hBW:Below W.heap.size W W:=Below.refl _ _
 replace hBW:=hBW.drew
 first
  | go_region_held3 (fun w'=>w'.cell? ⟨w.heap.size,0,none⟩=some (.bool s0)∧w'.cell? ⟨w.heap.size,1,none⟩=some (.slice a0 n0 c0)∧w'.cell? ⟨w.heap.size,2,none⟩=some (.slice b0 m0 d0)∧w'.cell? ⟨w.heap.size+1,0,none⟩=some (.bool s1)∧w'.cell? ⟨w.heap.size+1,1,none⟩=some (.slice a1 n1 c1)∧w'.cell? ⟨w.heap.size+1,2,none⟩=some (.slice b1 m1 d1)∧Below w.heap.size w w')
    (first | exact ⟨q00,q01,q02,q10,q11,q12,hB.trans (hBW.mono hB.size)⟩ | exact kp6 b11 (by assumption) | exact kp6 b12 (by assumption) | exact kp6 b13 (by assumption) | exact kp6 b14 (by assumption) | exact kp6 (below_alloc _) (by assumption) | exact kp6 (below_alloc _) ⟨q00,q01,q02,q10,q11,q12,hB.trans (hBW.mono hB.size)⟩ | exact kpT6_3 (by assumption) (by omega) (by omega) (by omega) (by omega) (by omega) (by omega) (by omega))
    (first
     | (go_at_call 22;go_at_call_of 22 (Value.agg #[Value.bool s0,Value.slice a0 n0 c0,Value.slice b0 m0 d0]);(fail_if_success clear b11);refine (read_is s0 a0 n0 c0 X0 b0 m0 d0 Y0 35184372088000 _ hc0 hm0 (sb hS0 hB hBW) hd0 hk0 (sb hT0 hB hBW) (by omega) (by omega)).mono ?_;rintro e w11 ⟨zs11,zp11,zn11,zc11,zX11,zq11,zm11,zd11,rfl,ga11,gb11,gc11,gd11,kS11,kT11,ge11,bb11⟩;have b11:=bb11;replace hBW:=hBW.trans (b11.mono hBW.size);replace q00:=below_cell b11 q00;replace q01:=below_cell b11 q01;replace q02:=below_cell b11 q02;replace q10:=below_cell b11 q10;replace q11:=below_cell b11 q11;replace q12:=below_cell b11 q12;replace r00:=below_cell b11 r00;replace r01:=below_cell b11 r01;replace r02:=below_cell b11 r02;replace hR0:=below_row b11 hR0)
     | (go_at_call 22;go_at_call_of 22 (Value.agg #[Value.bool s1,Value.slice a1 n1 c1,Value.slice b1 m1 d1]);(fail_if_success clear b12);refine (read_is s1 a1 n1 c1 X1 b1 m1 d1 Y1 35184372088000 _ hc1 hm1 (sb hS1 hB hBW) hd1 hk1 (sb hT1 hB hBW) (by omega) (by omega)).mono ?_;rintro e w12 ⟨zs12,zp12,zn12,zc12,zX12,zq12,zm12,zd12,rfl,ga12,gb12,gc12,gd12,kS12,kT12,ge12,bb12⟩;have b12:=bb12;replace hBW:=hBW.trans (b12.mono hBW.size);replace q00:=below_cell b12 q00;replace q01:=below_cell b12 q01;replace q02:=below_cell b12 q02;replace q10:=below_cell b12 q10;replace q11:=below_cell b12 q11;replace q12:=below_cell b12 q12;replace r00:=below_cell b12 r00;replace r01:=below_cell b12 r01;replace r02:=below_cell b12 r02;replace hR0:=below_row b12 hR0;replace kS11:=kS11.later b12;replace kT11:=kT11.later b12)
     | (go_at_call 29;refine (opposite_is zs12 zp12 zn12 zc12 false zq12 zm12 zd12 _).mono ?_;rintro e w13 ⟨rfl,b13⟩;replace hBW:=hBW.trans (b13.mono hBW.size);replace q00:=below_cell b13 q00;replace q01:=below_cell b13 q01;replace q02:=below_cell b13 q02;replace q10:=below_cell b13 q10;replace q11:=below_cell b13 q11;replace q12:=below_cell b13 q12;replace r00:=below_cell b13 r00;replace r01:=below_cell b13 r01;replace r02:=below_cell b13 r02;replace hR0:=below_row b13 hR0;replace kS11:=kS11.later b13;replace kT11:=kT11.later b13;replace kS12:=kS12.later b13;replace kT12:=kT12.later b13)
     | (go_at_call 105;(fail_if_success clear b14);refine (qsum_is zs11 zp11 zn11 zc11 zX11 zq11 zm11 zd11 (rd Y0) (!zs12) zp12 zn12 zc12 zX12 zq12 zm12 zd12 (rd Y1) _ _ Z V _ ga11 gb11 kS11 gc11 gd11 kT11 ga12 gb12 kS12 gc12 gd12 kT12 ge11 (by rw [sg_not,ge12]) HL.out).mono ?_;rintro e w14 ⟨p14,q14,rfl,hp14,hq14⟩;have b14:=hp14.below;replace hp14:=hp14.back hBW;replace hq14:=hq14.back hBW;replace hBW:=hBW.trans (b14.mono hBW.size);replace q00:=below_cell b14 q00;replace q01:=below_cell b14 q01;replace q02:=below_cell b14 q02;replace q10:=below_cell b14 q10;replace q11:=below_cell b14 q11;replace q12:=below_cell b14 q12;replace r00:=below_cell b14 r00;replace r01:=below_cell b14 r01;replace r02:=below_cell b14 r02;replace hR0:=below_row b14 hR0;replace kS11:=kS11.later b14;replace kT11:=kT11.later b14;replace kS12:=kS12.later b14;replace kT12:=kT12.later b14;have fz:=fun o=>hR0.frozen o))
  | fail
 have fz0:=fun o=>hR0.frozen o
 go_wp2
 all_goals refine bodyPost_ret (v:=Value.agg #[Value.bool (ng Z),Value.slice p14 (ln (am Z)) (ln (am Z)),Value.slice q14 (ln V) (ln V)]) (by rw [results_cell rfl];go_simp) rfl ?_
 all_goals exact ⟨p14,q14,rfl,hp14.mid hB (((((Mid.refl _ _ _).set _ _ (by omega) (by omega) _).set _ _ (by omega) (by omega) _).set _ _ (by omega) (by omega) _)),hq14.mid hB (((((Mid.refl _ _ _).set _ _ (by omega) (by omega) _).set _ _ (by omega) (by omega) _).set _ _ (by omega) (by omega) _))⟩
theorem Seg.set2 {w:World} {p:Option Addr} {X n c:Nat} {u0 u1:Value} {z0:Bool} {a1:Option Addr} {n1 k1:Nat} (h:Seg w p X n) (h0:w.cell? ⟨c,0,none⟩=some (.bool z0)) (h1:w.cell? ⟨c,1,none⟩=some (.slice a1 n1 k1)) :
  Seg ((w.setCell ⟨c,0,none⟩ u0).setCell ⟨c,1,none⟩ u1) p X n:=by
 refine (h.setB h0 (by simp)).setB (z:=.slice a1 n1 k1) ?_ (by simp)
 rw [World.cell?_setCell_other _ _ _ _ (fun e=>by simp at e)];exact h1
theorem RatV.ok.on {w w':World} {q:RatV} (h:q.ok w) (hb:Below w.heap.size w w'):q.ok w':=⟨h.1.later hb,h.2.1,h.2.2.1,h.2.2.2.1.later hb,h.2.2.2.2.1,h.2.2.2.2.2⟩
def twR (a:RatV) (p q:Option Addr):RatV:=⟨a.s,p,a.n,a.n,a.X,q,a.m,a.m,a.Y⟩
def nR (r:Rat) (p q:Option Addr):RatV:=⟨ng r.num,p,ln (am r.num),ln (am r.num),am r.num,q,ln r.den,ln r.den,r.den⟩
theorem nR_val (r:Rat) (p q:Option Addr):(nR r p q).val=r:=val_of r p q
def TA (w:World) (a:RatV) (e:Ending) (w':World):Prop:=∃ p q,e=.returned (.agg #[.bool a.s,.slice p a.n a.n,.slice q a.m a.m])∧Below w.heap.size w w'∧(twR a p q).ok w'
def QA (w:World) (r:Rat) (e:Ending) (w':World):Prop:=∃ p q,e=.returned (.agg #[.bool (ng r.num),.slice p (ln (am r.num)) (ln (am r.num)),.slice q (ln r.den) (ln r.den)])∧Below w.heap.size w w'∧(nR r p q).ok w'
theorem szV {w:World} {q:RatV} (h:q.ok w) {N:Nat} (h1:q.n≤N) (h2:q.m+1≤N):sz N q.val:=by
 have l1:=Nat.lt_of_le_of_lt (rn_am q.s q.X q.Y) h.1.1
 have l2:=rd_lt h.2.2.2.1.1
 exact ln1 q.val_low l1 (by rw [am_nat];exact l2) h1 h2
theorem sz_addY {r t:Rat} {N M:Nat} (h:sz N r) (k:sz M t):sz (2*N+2*M+3) (r+t):=by
 have e:co 0 [(0,r),(0,t)]=r+t:=by simp [co];grind
 rw [←e]
 refine (co_sz 0 _).mono ?_
 simp only [wts,wt]
 have:=h.1;have:=h.2;have:=k.1;have:=k.2
 omega
theorem sz_negY {r:Rat} {N:Nat} (h:sz N r):sz N (-r):=⟨by rw [Rat.neg_num,am_neg];exact h.1,by rw [Rat.neg_den];exact h.2⟩
theorem ok_nR {w w':World} {r:Rat} {p q:Option Addr} (hs:sz 100000000 r) (h1:New w w' p (am r.num) (ln (am r.num))) (h2:New w w' q r.den (ln r.den)):(nR r p q).ok w' :=
 ⟨h1.seg,Nat.le_refl _,Nat.le_trans hs.1 (by omega),h2.seg,Nat.le_refl _,Nat.le_trans hs.2 (by omega)⟩
def sR (r:Rat):Int:=sgn r.num
theorem sR_divInt {A:Int} {D:Int} (h:0 < D):sR (Rat.divInt A D)=sgn A:=by
 have hl:=low_of (A:=A) (D:=D) (Int.ne_of_gt h) rfl
 have e:=hl.eq
 have p:=hl.pos
 unfold sR
 have h1:sgn (A*((Rat.divInt A D).den:Int))=sgn ((Rat.divInt A D).num*D):=by rw [e]
 rw [sgn_mul_pos (by omega),sgn_mul_pos h] at h1
 exact h1.symm
theorem sR_sub (p q:RatV):sgn (rn p.s p.X p.Y*(rd q.Y:Nat) - rn q.s q.X q.Y*(rd p.Y:Nat))=sR (p.val - q.val):=by
 have e:p.val - q.val=Rat.divInt (rn p.s p.X p.Y*(rd q.Y:Nat) - rn q.s q.X q.Y*(rd p.Y:Nat)) ((rd p.Y:Nat)*(rd q.Y:Nat)):=by
  unfold RatV.val
  rw [Rat.divInt_sub_divInt _ _ (rd_ne _) (rd_ne _)]
 have p1:=rd_pos p.Y
 have p2:=rd_pos q.Y
 rw [e,sR_divInt (Int.mul_pos (by omega) (by omega))]
theorem low_subY (p q:RatV):Low (rn p.s p.X p.Y*(rd q.Y:Nat)+-(rn q.s q.X q.Y)*(rd p.Y:Nat)) ((rd p.Y:Nat)*(rd q.Y:Nat)) (p.val - q.val).num (p.val - q.val).den :=
 low_of (Int.mul_ne_zero (rd_ne _) (rd_ne _)) (by
  unfold RatV.val
  rw [Rat.divInt_sub_divInt _ _ (rd_ne _) (rd_ne _),Int.neg_mul,Int.sub_eq_add_neg])
theorem twinQ (A:RatV) (w:World) (hA:A.ok w):Calls Tryz.prog 8 #[.agg #[.bool A.s,.slice A.a A.n A.c,.slice A.b A.m A.e]] w (TA w A):=by
 have h1:=hA.2.2.1
 have h2:=hA.2.2.2.2.2
 refine (ltwin_is A.s A.a A.n A.c A.X A.b A.m A.e A.Y w hA.2.1 (by omega) hA.1 hA.2.2.2.2.1 (by omega) hA.2.2.2.1).mono ?_
 rintro e w1 ⟨p,q,rfl,n1,n2⟩
 exact ⟨p,q,rfl,n1.below,n1.seg,Nat.le_refl _,by show A.n≤_;omega,n2.seg,Nat.le_refl _,by show A.m≤_;omega⟩
theorem subQ (A B:RatV) (S:Rat) (w:World) (hA:A.ok w) (hB:B.ok w) (hn:A.n≤100000000∧A.m≤100000000∧B.n≤100000000∧B.m≤100000000) (hS:A.val - B.val=S) (hz:sz 100000000 S):Calls Tryz.prog 89 #[.agg #[.bool A.s,.slice A.a A.n A.c,.slice A.b A.m A.e],.agg #[.bool B.s,.slice B.a B.n B.c,.slice B.b B.m B.e]] w (QA w S):=by
 subst hS
 refine (qSub_is A.s A.a A.n A.c A.X A.b A.m A.e A.Y B.s B.a B.n B.c B.X B.b B.m B.e B.Y _ _ w hA.2.1 (by omega) hA.1 hA.2.2.2.2.1 (by omega) hA.2.2.2.1 hB.2.1 (by omega) hB.1 hB.2.2.2.2.1 (by omega) hB.2.2.2.1 (low_subY A B)).mono ?_
 rintro e w1 ⟨p,q,rfl,n1,n2⟩
 exact ⟨p,q,rfl,n1.below,ok_nR hz n1 n2⟩
theorem cmpQ (A B:RatV) (w:World) (hA:A.ok w) (hB:B.ok w) (hn:A.n≤100000000∧A.m≤100000000∧B.n≤100000000∧B.m≤100000000) (C:Int) (hS:sR (A.val - B.val)=C):Calls Tryz.prog 13 #[.agg #[.bool A.s,.slice A.a A.n A.c,.slice A.b A.m A.e],.agg #[.bool B.s,.slice B.a B.n B.c,.slice B.b B.m B.e]] w fun e w1=>e=.returned (.int .i64 C)∧Below w.heap.size w w1 :=
 qCmp_is A.s A.a A.n A.c A.X A.b A.m A.e A.Y B.s B.a B.n B.c B.X B.b B.m B.e B.Y C w hA.2.1 (by omega) hA.1 hA.2.2.2.2.1 (by omega) hA.2.2.2.1 hB.2.1 (by omega) hB.1 hB.2.2.2.2.1 (by omega) hB.2.2.2.1 ((sR_sub A B).trans hS)
theorem sameQ (r:Rat) (p q p1 q1:Option Addr) (w:World) (h1:(nR r p q).ok w) (h2:(nR r p1 q1).ok w):Calls Tryz.prog 10 #[.agg #[.bool (ng r.num),.slice p (ln (am r.num)) (ln (am r.num)),.slice q (ln r.den) (ln r.den)],.agg #[.bool (ng r.num),.slice p1 (ln (am r.num)) (ln (am r.num)),.slice q1 (ln r.den) (ln r.den)]] w fun e w1=>e=.returned (.bool true)∧Below w.heap.size w w1 :=
 sameQ_is r.num r.den p q p1 q1 w (Nat.le_trans h1.2.2.1 (by omega)) (Nat.le_trans h1.2.2.2.2.2 (by omega)) h1.1 h1.2.2.2.1 h2.1 h2.2.2.2.1
theorem vsubQ (A B:RatV) (S:Rat) (w:World) (hA:A.ok w) (hB:B.ok w) (hn:A.n≤100000000∧A.m≤100000000∧B.n≤100000000∧B.m≤100000000) (hS:A.val - B.val=S) (hz:sz 100000000 S):Calls Tryz.prog 36 #[.agg #[.bool A.s,.slice A.a A.n A.c,.slice A.b A.m A.e],.agg #[.bool B.s,.slice B.a B.n B.c,.slice B.b B.m B.e]] w (QA w S):=by
 subst hS
 refine (vqSub_is A.s A.a A.n A.c A.X A.b A.m A.e A.Y B.s B.a B.n B.c B.X B.b B.m B.e B.Y _ _ w hA.2.1 (by omega) hA.1 hA.2.2.2.2.1 (by omega) hA.2.2.2.1 hB.2.1 (by omega) hB.1 hB.2.2.2.2.1 (by omega) hB.2.2.2.1 (low_subY A B)).mono ?_
 rintro e w1 ⟨p,q,rfl,n1,n2⟩
 exact ⟨p,q,rfl,n1.below,ok_nR hz n1 n2⟩
theorem vcmpQ (A B:RatV) (w:World) (hA:A.ok w) (hB:B.ok w) (hn:A.n≤100000000∧A.m≤100000000∧B.n≤100000000∧B.m≤100000000) (C:Int) (hS:sR (A.val - B.val)=C):Calls Tryz.prog 15 #[.agg #[.bool A.s,.slice A.a A.n A.c,.slice A.b A.m A.e],.agg #[.bool B.s,.slice B.a B.n B.c,.slice B.b B.m B.e]] w fun e w1=>e=.returned (.int .i64 C)∧Below w.heap.size w w1 :=
 vqCmp_is A.s A.a A.n A.c A.X A.b A.m A.e A.Y B.s B.a B.n B.c B.X B.b B.m B.e B.Y C w hA.2.1 (by omega) hA.1 hA.2.2.2.2.1 (by omega) hA.2.2.2.1 hB.2.1 (by omega) hB.1 hB.2.2.2.2.1 (by omega) hB.2.2.2.1 ((sR_sub A B).trans hS)
theorem vnormQ (A:RatV) (S:Rat) (w:World) (hA:A.ok w) (hS:A.val=S) (hz:sz 100000000 S):Calls Tryz.prog 14 #[.agg #[.bool A.s,.slice A.a A.n A.c,.slice A.b A.m A.e]] w (QA w S):=by
 subst hS
 have h1:=hA.2.2.1
 have h2:=hA.2.2.2.2.2
 refine (vqNorm_is A.s A.a A.n A.c A.X A.b A.m A.e A.Y _ _ w (by omega) hA.1 (by omega) hA.2.2.2.1 A.val_low).mono ?_
 rintro e w1 ⟨p,q,rfl,n1,n2⟩
 exact ⟨p,q,rfl,n1.below,ok_nR hz n1 n2⟩
def absR (r:Rat):Rat:=Rat.divInt (am r.num:Nat) (r.den:Int)
theorem absR_val (A:RatV):absR A.val=Rat.divInt ((am (rn A.s A.X A.Y):Nat):Int) ((rd A.Y:Nat):Int):=by
 have h:=A.val_low
 unfold absR
 have hd:=A.val.den_pos
 rw [Rat.divInt_eq_divInt_iff (by omega) (rd_ne _)]
 have e:=h.eq
 have e2:am (A.val.num*((rd A.Y:Nat):Int))=am (rn A.s A.X A.Y*(A.val.den:Int)):=by rw [e]
 rw [am_mul,am_mul,am_nat,am_nat] at e2
 exact_mod_cast e2
theorem vabsQ (A:RatV) (S:Rat) (w:World) (hA:A.ok w) (hS:absR A.val=S) (hz:sz 100000000 S) (hn:A.n≤100000000∧A.m≤100000000):Calls Tryz.prog 61 #[.agg #[.bool A.s,.slice A.a A.n A.c,.slice A.b A.m A.e]] w (QA w S):=by
 subst hS
 refine (vqAbs_is A.s A.a A.n A.c A.X A.b A.m A.e A.Y _ _ w hA.2.1 (by omega) hA.1 hA.2.2.2.2.1 (by omega) hA.2.2.2.1 (low_of (rd_ne _) (absR_val A))).mono ?_
 rintro e w1 ⟨p,q,rfl,n1,n2⟩
 exact ⟨p,q,rfl,n1.below,ok_nR hz n1 n2⟩
theorem RatV.ok.ch {x:RatV} {c:Nat} {W W':World} (h:x.ok W) (k:Ch c W W') (hno:∀ o i,W.cell? ⟨c,o,none⟩≠some (.int .u32 i)):x.ok W':=⟨h.1.ch k hno,h.2.1,h.2.2.1,h.2.2.2.1.ch k hno,h.2.2.2.2⟩
theorem cell_ltB {w:World} {c o:Nat} {v:Value} (h:w.cell? ⟨c,o,none⟩=some v):c < w.heap.size:=World.block_lt_of_cell? w _ h
theorem sR_tri (x y:Rat):(x < y∧sR (x - y) = -1)∨(x=y∧sR (x - y)=0)∨(y < x∧sR (x - y)=1):=by
 have e:∀ z:Rat,(z < 0∧sR z = -1)∨(z=0∧sR z=0)∨(0 < z∧sR z=1):=fun z=>by
  have h1:z < 0↔z.num < 0:=by rw [Rat.lt_iff];simp
  have h2:0 < z↔0 < z.num:=by rw [Rat.lt_iff];simp
  unfold sR sgn
  rcases Int.lt_trichotomy z.num 0 with h | h | h
  ·exact Or.inl ⟨h1.2 h,if_pos h⟩
  ·exact Or.inr (Or.inl ⟨Rat.num_eq_zero.1 h,by rw [if_neg (by omega),if_pos h]⟩)
  ·exact Or.inr (Or.inr ⟨h2.2 h,by rw [if_neg (by omega),if_neg (by omega)]⟩)
 rcases e (x - y) with ⟨h,k⟩ | ⟨h,k⟩ | ⟨h,k⟩
 ·exact Or.inl ⟨by grind,k⟩
 ·exact Or.inr (Or.inl ⟨by grind,k⟩)
 ·exact Or.inr (Or.inr ⟨by grind,k⟩)
def orI (a b c:Int):Int:=if a=0 then (if b=0 then c else b) else a
theorem absR_eq (y:Rat):absR y=if y < 0 then -y else y:=by
 have h1:y < 0↔y.num < 0:=by rw [Rat.lt_iff];simp
 unfold absR
 split
 ·have h:=h1.1 (by assumption)
  rw [show ((am y.num:Nat):Int) = -y.num by unfold am;omega,←Rat.neg_divInt,Rat.num_divInt_den]
 ·rename_i h
  have h2:¬ y.num < 0:=fun k=>h (h1.2 k)
  rw [show ((am y.num:Nat):Int)=y.num by unfold am;omega,Rat.num_divInt_den]
theorem absR_dsR (r x:Rat):absR (x - r)=dsR r x:=by
 rw [absR_eq]
 unfold dsR
 split <;> split <;> grind
theorem absR_dsR2 (r x:Rat):absR (r - x)=dsR r x:=by
 rw [absR_eq]
 unfold dsR
 split <;> split <;> grind
theorem sz_absR {y:Rat} {N:Nat} (h:sz N y):sz N (absR y):=by
 rw [absR_eq]
 split
 ·exact sz_negY h
 ·exact h
theorem sz_subY {r t:Rat} {N M:Nat} (h:sz N r) (k:sz M t):sz (2*N+2*M+3) (r - t):=by
 rw [Rat.sub_eq_add_neg]
 exact sz_addY h (sz_negY k)
theorem sz_ds {r t:Rat} {N M:Nat} (h:sz N r) (k:sz M t):sz (2*N+2*M+3) (dsR r t):=by
 rw [←absR_dsR2]
 exact sz_absR (sz_subY h k)
theorem cmpI_tri (X Y:Nat):(X < Y∧cmpI X Y = -1)∨(X=Y∧cmpI X Y=0)∨(Y < X∧cmpI X Y=1):=by
 rcases Nat.lt_trichotomy X Y with h | h | h
 ·exact Or.inl ⟨h,cmpI_lt h⟩
 ·exact Or.inr (Or.inl ⟨h,cmpI_eq h⟩)
 ·exact Or.inr (Or.inr ⟨h,cmpI_gt h⟩)
theorem orI_ahd (r a b:Rat):orI (sR (dsR r a - dsR r b)) (cmpI a.den b.den) (sR (a - b)) < 0↔ahd r a b:=by
 unfold orI ahd
 rcases sR_tri (dsR r a) (dsR r b) with ⟨h,k⟩ | ⟨h,k⟩ | ⟨h,k⟩
 ·rw [k,if_neg (by decide)]
  exact ⟨fun _=>Or.inl h,fun _=>by decide⟩
 ·rw [k,if_pos rfl]
  have h0:¬ dsR r a < dsR r b:=by rw [h];grind
  rcases cmpI_tri a.den b.den with ⟨h1,k1⟩ | ⟨h1,k1⟩ | ⟨h1,k1⟩
  ·rw [k1,if_neg (by decide)]
   exact ⟨fun _=>Or.inr ⟨h,Or.inl h1⟩,fun _=>by decide⟩
  ·rw [k1,if_pos rfl]
   rcases sR_tri a b with ⟨h2,k2⟩ | ⟨h2,k2⟩ | ⟨h2,k2⟩
   ·rw [k2]
    exact ⟨fun _=>Or.inr ⟨h,Or.inr ⟨h1,h2⟩⟩,fun _=>by decide⟩
   ·rw [k2]
    refine ⟨fun h9=>absurd h9 (by decide),?_⟩
    rintro (h9 | ⟨_,h9 | ⟨_,h9⟩⟩)
    ·exact absurd h9 h0
    ·omega
    ·rw [h2] at h9;grind
   ·rw [k2]
    refine ⟨fun h9=>absurd h9 (by decide),?_⟩
    rintro (h9 | ⟨_,h9 | ⟨_,h9⟩⟩)
    ·exact absurd h9 h0
    ·omega
    ·grind
  ·rw [k1,if_neg (by decide)]
   refine ⟨fun h9=>absurd h9 (by decide),?_⟩
   rintro (h9 | ⟨_,h9 | ⟨h9,_⟩⟩)
   ·exact absurd h9 h0
   ·omega
   ·omega
 ·rw [k,if_neg (by decide)]
  refine ⟨fun h9=>absurd h9 (by decide),?_⟩
  rintro (h9 | ⟨h9,_⟩)
  ·grind
  ·rw [h9] at h;grind
def NearA (w:World) (A:RatV) (a b:Rat) (e:Ending) (w':World):Prop:=∃ c p q,((ahd A.val a b∧c=a)∨(¬ ahd A.val a b∧c=b))∧e=.returned (.agg #[.bool (ng c.num),.slice p (ln (am c.num)) (ln (am c.num)),.slice q (ln c.den) (ln c.den)])∧Below w.heap.size w w'∧(nR c p q).ok w'
set_option maxHeartbeats 1000000 in
theorem or_is (g:Nat) (C1 C2 C3:Int) (w:World) (hq:Blk w g #[.int .i64 C1,.int .i64 C2,.int .i64 C3] 3) :
  Calls Tryz.prog 87 #[.slice (some ⟨g,0,none⟩) 3 3] w fun e w'=>e=.returned (.int .i64 (orI C1 C2 C3))∧w'=w:=by
 have y0:=hq.cell 0
 have y1:=hq.cell 1
 have y2:=hq.cell 2
 simp only [List.getElem?_toArray,List.getElem?_cons_zero,List.getElem?_cons_succ] at y0 y1 y2
 have HO:=hide' (show orI C1 C2 C3=if C1=0 then (if C2=0 then C3 else C2) else C1 from rfl)
 generalize orI C1 C2 C3=O at HO ⊢
 go_enter Tryz.func87,Tryz.ntmps87
 go_wp2
 go_loop [8] (fun i=>∃ k:Nat,k≤3∧i=.int .i64 k∧(1≤k→C1=0)∧(2≤k→C2=0)∧(3≤k→C3=0)) (fun i=>3 - (intOf i).toNat)
 case atStart=>exact ⟨0,by omega,rfl,fun h=>by omega,fun h=>by omega,fun h=>by omega⟩
 case round =>
  obtain ⟨k,hk,rfl,h1,h2,h3⟩:=hrel
  have H1:=hide' h1
  have H2:=hide' h2
  have H3:=hide' h3
  clear h1 h2 h3
  rcases (show k=0∨k=1∨k=2∨k=3 by omega) with rfl | rfl | rfl | rfl
  ·by_cases hc:C1=0
   ·have hx:(C1 == 0)=true:=by rw [hc];rfl
    have hx2:(C1 != 0)=false:=by rw [hc];rfl
    have HC:=hide' hc
    clear hc
    go_wp2
    go_round
    case rel=>exact ⟨1,by omega,by go_num,fun _=>HC.out,fun h=>by omega,fun h=>by omega⟩
    case measure=>simp [intOf]
   ·have hx:(C1 == 0)=false:=beq_eq_false_iff_ne.2 hc
    have hx2:(C1 != 0)=true:=by simp [hc]
    have HC:=hide' hc
    clear hc
    go_wp2
    go_ret
    exact ⟨by rw [HO.out,if_neg HC.out];first | done | rfl,rfl⟩
  ·by_cases hc:C2=0
   ·have hx:(C2 == 0)=true:=by rw [hc];rfl
    have hx2:(C2 != 0)=false:=by rw [hc];rfl
    have HC:=hide' hc
    clear hc
    go_wp2
    go_round
    case rel=>exact ⟨2,by omega,by go_num,fun _=>H1.out (by omega),fun _=>HC.out,fun h=>by omega⟩
    case measure=>simp [intOf]
   ·have hx:(C2 == 0)=false:=beq_eq_false_iff_ne.2 hc
    have hx2:(C2 != 0)=true:=by simp [hc]
    have HC:=hide' hc
    clear hc
    go_wp2
    go_ret
    exact ⟨by rw [HO.out,if_pos (H1.out (by omega)),if_neg HC.out];first | done | rfl,rfl⟩
  ·by_cases hc:C3=0
   ·have hx:(C3 == 0)=true:=by rw [hc];rfl
    have hx2:(C3 != 0)=false:=by rw [hc];rfl
    have HC:=hide' hc
    clear hc
    go_wp2
    go_round
    case rel=>exact ⟨3,by omega,by go_num,fun _=>H1.out (by omega),fun _=>H2.out (by omega),fun _=>HC.out⟩
    case measure=>simp [intOf]
   ·have hx:(C3 == 0)=false:=beq_eq_false_iff_ne.2 hc
    have hx2:(C3 != 0)=true:=by simp [hc]
    have HC:=hide' hc
    clear hc
    go_wp2
    go_ret
    exact ⟨by rw [HO.out,if_pos (H1.out (by omega)),if_pos (H2.out (by omega))];first | done | rfl,rfl⟩
  ·go_wp2
   go_ret
   exact ⟨by rw [HO.out,if_pos (H1.out (by omega)),if_pos (H2.out (by omega)),H3.out (by omega)];first | done | rfl,rfl⟩
theorem absQ (A:RatV) (S:Rat) (w:World) (hA:A.ok w) (hS:absR A.val=S) (hz:sz 100000000 S) (hn:A.n≤100000000∧A.m≤100000000):Calls Tryz.prog 88 #[.agg #[.bool A.s,.slice A.a A.n A.c,.slice A.b A.m A.e]] w (QA w S):=by
 subst hS
 refine (qAbs_is A.s A.a A.n A.c A.X A.b A.m A.e A.Y _ _ w hA.2.1 (by omega) hA.1 hA.2.2.2.2.1 (by omega) hA.2.2.2.1 (low_of (rd_ne _) (absR_val A))).mono ?_
 rintro e w1 ⟨p,q,rfl,n1,n2⟩
 exact ⟨p,q,rfl,n1.below,ok_nR hz n1 n2⟩
set_option maxHeartbeats 8000000 in
set_option maxRecDepth 100000 in
theorem nearer_is (A:RatV) (a b:Rat) (pa qa pb qb:Option Addr) (w:World) (hA:A.ok w) (ha:(nR a pa qa).ok w) (hb:(nR b pb qb).ok w) (hn:A.n≤2000000∧A.m≤2000000) (sA:sz 2000001 A.val) (sa:sz 2000000 a) (sb:sz 2000000 b) :
  Calls Tryz.prog 50 #[.agg #[.bool A.s,.slice A.a A.n A.c,.slice A.b A.m A.e],.agg #[.bool (ng a.num),.slice pa (ln (am a.num)) (ln (am a.num)),.slice qa (ln a.den) (ln a.den)],.agg #[.bool (ng b.num),.slice pb (ln (am b.num)) (ln (am b.num)),.slice qb (ln b.den) (ln b.den)]] w (NearA w A a b):=by
 obtain ⟨Sa,hSa⟩:∃ S,a - A.val=S:=⟨_,rfl⟩
 obtain ⟨DA,hDA⟩:∃ S,dsR A.val a=S:=⟨_,rfl⟩
 have za:sz 100000000 Sa:=by rw [←hSa];exact (sz_subY sa sA).mono (by omega)
 have zDA:sz 100000000 DA:=by rw [←hDA];exact (sz_ds sA sa).mono (by omega)
 have GSa:=hide' (fun w' (k1:(nR a pa qa).ok w') (k2:A.ok w')=>subQ (nR a pa qa) A Sa w' k1 k2 ⟨Nat.le_trans sa.1 (by omega),Nat.le_trans sa.2 (by omega),by omega,by omega⟩ (by rw [nR_val];exact hSa) za)
 have GAa:=hide' (fun w' p q (k1:(nR Sa p q).ok w')=>absQ (nR Sa p q) DA w' k1 (by rw [nR_val,←hSa,absR_dsR];exact hDA) zDA ⟨za.1,za.2⟩)
 obtain ⟨Sb,hSb⟩:∃ S,b - A.val=S:=⟨_,rfl⟩
 obtain ⟨DB,hDB⟩:∃ S,dsR A.val b=S:=⟨_,rfl⟩
 have zb:sz 100000000 Sb:=by rw [←hSb];exact (sz_subY sb sA).mono (by omega)
 have zDB:sz 100000000 DB:=by rw [←hDB];exact (sz_ds sA sb).mono (by omega)
 have GSb:=hide' (fun w' (k1:(nR b pb qb).ok w') (k2:A.ok w')=>subQ (nR b pb qb) A Sb w' k1 k2 ⟨Nat.le_trans sb.1 (by omega),Nat.le_trans sb.2 (by omega),by omega,by omega⟩ (by rw [nR_val];exact hSb) zb)
 have GAb:=hide' (fun w' p q (k1:(nR Sb p q).ok w')=>absQ (nR Sb p q) DB w' k1 (by rw [nR_val,←hSb,absR_dsR];exact hDB) zDB ⟨zb.1,zb.2⟩)
 obtain ⟨C1,hC1⟩:∃ C,sR (DA - DB)=C:=⟨_,rfl⟩
 obtain ⟨C2,hC2⟩:∃ C,cmpI a.den b.den=C:=⟨_,rfl⟩
 obtain ⟨C3,hC3⟩:∃ C,sR (a - b)=C:=⟨_,rfl⟩
 have GC1:=hide' (fun w' p q p1 q1 (k1:(nR DA p q).ok w') (k2:(nR DB p1 q1).ok w')=>cmpQ (nR DA p q) (nR DB p1 q1) w' k1 k2 ⟨zDA.1,zDA.2,zDB.1,zDB.2⟩ C1 (by rw [nR_val,nR_val];exact hC1))
 have GC2:=hide' (fun w' (k1:Seg w' qa a.den (ln a.den)) (k2:Seg w' qb b.den (ln b.den))=>(Cmp_any qa qb (ln a.den) (ln a.den) a.den (ln b.den) (ln b.den) b.den w' (Nat.le_refl _) (Nat.le_trans sa.2 (by omega)) k1 (Nat.le_refl _) (Nat.le_trans sb.2 (by omega)) k2).mono (fun e w2 h=>(show e=.returned (.int .i64 (cmpI a.den b.den))∧Below w'.heap.size w' w2 from ⟨h.1,h.2.below _⟩)))
 rw [hC2] at GC2
 have GC3:=hide' (fun w' (k1:(nR a pa qa).ok w') (k2:(nR b pb qb).ok w')=>cmpQ (nR a pa qa) (nR b pb qb) w' k1 k2 ⟨Nat.le_trans sa.1 (by omega),Nat.le_trans sa.2 (by omega),Nat.le_trans sb.1 (by omega),Nat.le_trans sb.2 (by omega)⟩ C3 (by rw [nR_val,nR_val];exact hC3))
 obtain ⟨O,hO⟩:∃ O,orI C1 C2 C3=O:=⟨_,rfl⟩
 have GO:=hide' (fun g w' hq=>(or_is g C1 C2 C3 w' hq).mono (fun e w2 h=>(show e=.returned (.int .i64 (orI C1 C2 C3))∧Below w'.heap.size w' w2 from ⟨h.1,h.2 ▸ Below.refl _ _⟩)))
 rw [hO] at GO
 have HO:=hide' (show O < 0↔ahd A.val a b by rw [←hO,←hC1,←hC2,←hC3,←hDA,←hDB];exact orI_ahd _ _ _)
 clear hO hC1 hC2 hC3 hDA hDB hSa hSb
 have bel:Below w.heap.size w w:=Below.refl _ _
 have bb:=below_alloc (w:=w) (.cells #[.bool A.s,.slice A.a A.n A.c,.slice A.b A.m A.e] 27)
 replace hA:=hA.on bb
 replace ha:=ha.on bb
 replace hb:=hb.on bb
 replace bel:=bel.trans (bb.mono bel.size)
 clear bb
 have qr:=Blk.new w #[.bool A.s,.slice A.a A.n A.c,.slice A.b A.m A.e] 27
 have bb:=below_alloc (w:=(w.alloc (.cells #[.bool A.s,.slice A.a A.n A.c,.slice A.b A.m A.e] 27))) (.cells #[.bool (ng a.num),.slice pa (ln (am a.num)) (ln (am a.num)),.slice qa (ln a.den) (ln a.den)] 27)
 replace qr:=qr.later bb
 replace hA:=hA.on bb
 replace ha:=ha.on bb
 replace hb:=hb.on bb
 replace bel:=bel.trans (bb.mono bel.size)
 clear bb
 have qx:=Blk.new (w.alloc (.cells #[.bool A.s,.slice A.a A.n A.c,.slice A.b A.m A.e] 27)) #[.bool (ng a.num),.slice pa (ln (am a.num)) (ln (am a.num)),.slice qa (ln a.den) (ln a.den)] 27
 simp only [World.size_alloc] at qx
 have bb:=below_alloc (w:=((w.alloc (.cells #[.bool A.s,.slice A.a A.n A.c,.slice A.b A.m A.e] 27)).alloc (.cells #[.bool (ng a.num),.slice pa (ln (am a.num)) (ln (am a.num)),.slice qa (ln a.den) (ln a.den)] 27))) (.cells #[.bool (ng b.num),.slice pb (ln (am b.num)) (ln (am b.num)),.slice qb (ln b.den) (ln b.den)] 27)
 replace qr:=qr.later bb
 replace qx:=qx.later bb
 replace hA:=hA.on bb
 replace ha:=ha.on bb
 replace hb:=hb.on bb
 replace bel:=bel.trans (bb.mono bel.size)
 clear bb
 have qy:=Blk.new ((w.alloc (.cells #[.bool A.s,.slice A.a A.n A.c,.slice A.b A.m A.e] 27)).alloc (.cells #[.bool (ng a.num),.slice pa (ln (am a.num)) (ln (am a.num)),.slice qa (ln a.den) (ln a.den)] 27)) #[.bool (ng b.num),.slice pb (ln (am b.num)) (ln (am b.num)),.slice qb (ln b.den) (ln b.den)] 27
 simp only [World.size_alloc] at qy
 have bb:=below_alloc (w:=(((w.alloc (.cells #[.bool A.s,.slice A.a A.n A.c,.slice A.b A.m A.e] 27)).alloc (.cells #[.bool (ng a.num),.slice pa (ln (am a.num)) (ln (am a.num)),.slice qa (ln a.den) (ln a.den)] 27)).alloc (.cells #[.bool (ng b.num),.slice pb (ln (am b.num)) (ln (am b.num)),.slice qb (ln b.den) (ln b.den)] 27))) (.cells #[.bool false,.slice none 0 0,.slice none 0 0] 27)
 replace qr:=qr.later bb
 replace qx:=qx.later bb
 replace qy:=qy.later bb
 replace hA:=hA.on bb
 replace ha:=ha.on bb
 replace hb:=hb.on bb
 replace bel:=bel.trans (bb.mono bel.size)
 clear bb
 have qo:=Blk.new (((w.alloc (.cells #[.bool A.s,.slice A.a A.n A.c,.slice A.b A.m A.e] 27)).alloc (.cells #[.bool (ng a.num),.slice pa (ln (am a.num)) (ln (am a.num)),.slice qa (ln a.den) (ln a.den)] 27)).alloc (.cells #[.bool (ng b.num),.slice pb (ln (am b.num)) (ln (am b.num)),.slice qb (ln b.den) (ln b.den)] 27)) #[.bool false,.slice none 0 0,.slice none 0 0] 27
 simp only [World.size_alloc] at qo
 go_enter Tryz.func50,Tryz.ntmps50
 go_wp2_with fail
 obtain ⟨W0,hW⟩:∃ W,((((w.alloc (.cells #[.bool A.s,.slice A.a A.n A.c,.slice A.b A.m A.e] 27)).alloc (.cells #[.bool (ng a.num),.slice pa (ln (am a.num)) (ln (am a.num)),.slice qa (ln a.den) (ln a.den)] 27)).alloc (.cells #[.bool (ng b.num),.slice pb (ln (am b.num)) (ln (am b.num)),.slice qb (ln b.den) (ln b.den)] 27)).alloc (.cells #[.bool false,.slice none 0 0,.slice none 0 0] 27))=W:=⟨_,rfl⟩
 rw [hW] at bel qr qx qy qo hA ha hb ⊢
 clear hW
 have lqo:=qo.lt
 have qr_0:=qr.cell 0
 have qr_1:=qr.cell 1
 have qr_2:=qr.cell 2
 have qx_0:=qx.cell 0
 have qx_1:=qx.cell 1
 have qx_2:=qx.cell 2
 have qy_0:=qy.cell 0
 have qy_1:=qy.cell 1
 have qy_2:=qy.cell 2
 simp only [List.getElem?_toArray,List.getElem?_cons_zero,List.getElem?_cons_succ] at qr_0 qr_1 qr_2 qx_0 qx_1 qx_2 qy_0 qy_1 qy_2
 have bD:Below W0.heap.size W0 W0.drew:=(Below.refl _ _).drew
 have kqr_0:=below_cell bD qr_0
 have kqr_1:=below_cell bD qr_1
 have kqr_2:=below_cell bD qr_2
 have kqx_0:=below_cell bD qx_0
 have kqx_1:=below_cell bD qx_1
 have kqx_2:=below_cell bD qx_2
 have kqy_0:=below_cell bD qy_0
 have kqy_1:=below_cell bD qy_1
 have kqy_2:=below_cell bD qy_2
 replace hA:=hA.on bD
 replace ha:=ha.on bD
 replace hb:=hb.on bD
 replace bel:=bel.trans (bD.mono bel.size)
 replace qr:=qr.later bD
 replace qx:=qx.later bD
 replace qy:=qy.later bD
 replace qo:=qo.later bD
 refine wp_region_held_drew (S:=fun w'=>w'.cell? ⟨w.heap.size,0,none⟩=some (.bool A.s)∧w'.cell? ⟨w.heap.size,1,none⟩=some (.slice A.a A.n A.c)∧w'.cell? ⟨w.heap.size,2,none⟩=some (.slice A.b A.m A.e)∧w'.cell? ⟨w.heap.size+1,0,none⟩=some (.bool (ng a.num))∧w'.cell? ⟨w.heap.size+1,1,none⟩=some (.slice pa (ln (am a.num)) (ln (am a.num)))∧w'.cell? ⟨w.heap.size+1,2,none⟩=some (.slice qa (ln a.den) (ln a.den))∧w'.cell? ⟨w.heap.size+1+1,0,none⟩=some (.bool (ng b.num))∧w'.cell? ⟨w.heap.size+1+1,1,none⟩=some (.slice pb (ln (am b.num)) (ln (am b.num)))∧w'.cell? ⟨w.heap.size+1+1,2,none⟩=some (.slice qb (ln b.den) (ln b.den))) (by kernel_rfl) ⟨kqr_0,kqr_1,kqr_2,kqx_0,kqx_1,kqx_2,kqy_0,kqy_1,kqy_2⟩ (fun hHeld=>?_)
 clear kqr_0 kqr_1 kqr_2 kqx_0 kqx_1 kqx_2 kqy_0 kqy_1 kqy_2
 generalize W0.drew=w0F at bD hA ha hb qr qx qy qo bel hHeld ⊢
 clear bD qr_0 qr_1 qr_2 qx_0 qx_1 qx_2 qy_0 qy_1 qy_2
 refine tk 0 (v:=?_) rfl (Or.inl ⟨by rfl,?_⟩) ?_
 rotate_left
 ·intro w9 hSw
  go_simp
  first | done | with_reducible rfl
 simp only [pP,pN,pS,pZ,pC]
 refine tk 1 (v:=?_) rfl (Or.inl ⟨by rfl,?_⟩) ?_
 rotate_left
 ·intro w9 hSw
  go_simp
  first | done | with_reducible rfl
 simp only [pP,pN,pS,pZ,pC]
 refine tk 4 (v:=?_) rfl (Or.inl ⟨by rfl,?_⟩) ?_
 rotate_left
 ·intro w9 hSw
  go_simp
  first | done | with_reducible rfl
 simp only [pP,pN,pS,pZ,pC]
 refine tk 5 (v:=?_) rfl (Or.inl ⟨by rfl,?_⟩) ?_
 rotate_left
 ·intro w9 hSw
  go_simp
  first | done | with_reducible rfl
 simp only [pP,pN,pS,pZ,pC]
 refine tk 9 (v:=?_) rfl (Or.inl ⟨by rfl,?_⟩) ?_
 rotate_left
 ·intro w9 hSw
  go_simp
  first | done | with_reducible rfl
 simp only [pP,pN,pS,pZ,pC]
 refine tk 10 (v:=?_) rfl (Or.inl ⟨by rfl,?_⟩) ?_
 rotate_left
 ·intro w9 hSw
  go_simp
  first | done | with_reducible rfl
 simp only [pP,pN,pS,pZ,pC]
 refine tk 11 (v:=?_) rfl (Or.inl ⟨by rfl,?_⟩) ?_
 rotate_left
 ·intro w9 hSw
  go_simp
  first | done | with_reducible rfl
 simp only [pP,pN,pS,pZ,pC]
 refine tk 12 (v:=?_) rfl (Or.inl ⟨by rfl,?_⟩) ?_
 rotate_left
 ·intro w9 hSw
  go_simp
  first | done | with_reducible rfl
 simp only [pP,pN,pS,pZ,pC]
 refine tk 14 (v:=?_) rfl (Or.inl ⟨by rfl,?_⟩) ?_
 rotate_left
 ·intro w9 hSw
  go_simp
  first | done | with_reducible rfl
 simp only [pP,pN,pS,pZ,pC]
 refine tk 15 (v:=?_) rfl (Or.inl ⟨by rfl,?_⟩) ?_
 rotate_left
 ·intro w9 hSw
  go_simp
  first | done | with_reducible rfl
 simp only [pP,pN,pS,pZ,pC]
 refine wpAnyH_ready (rs:=[2]) (by kernel_rfl) (by simp) ?_
 refine cons' rfl (fun KK hKK=>?_)
 go_simp
 refine (GSa.out _ ha hA).mono ?_
 rintro e w1 ⟨p1,q1,rfl,b1,o1⟩
 have bC:=b1
 replace hA:=hA.on bC
 replace ha:=ha.on bC
 replace hb:=hb.on bC
 replace bel:=bel.trans (bC.mono bel.size)
 replace qr:=qr.later bC
 replace qx:=qx.later bC
 replace qy:=qy.later bC
 replace qo:=qo.later bC
 replace hHeld:=(⟨below_cell bC hHeld.1,below_cell bC hHeld.2.1,below_cell bC hHeld.2.2.1,below_cell bC hHeld.2.2.2.1,below_cell bC hHeld.2.2.2.2.1,below_cell bC hHeld.2.2.2.2.2.1,below_cell bC hHeld.2.2.2.2.2.2.1,below_cell bC hHeld.2.2.2.2.2.2.2.1,below_cell bC hHeld.2.2.2.2.2.2.2.2⟩:_∧_∧_∧_∧_∧_∧_∧_∧_)
 clear bC
 go_wp2_with fail
 clear b1
 refine hKK.out _ _ hHeld ?_
 clear hHeld
 intro hHeld
 clear hKK KK
 try simp only [pP,pN,pS,pZ,pC]
 refine wpAnyH_ready (rs:=[3]) (by kernel_rfl) (by simp) ?_
 refine cons' rfl (fun KK hKK=>?_)
 go_simp
 refine (GAa.out _ p1 q1 o1).mono ?_
 rintro e w2 ⟨p2,q2,rfl,b1,o2⟩
 have bC:=b1
 replace hA:=hA.on bC
 replace ha:=ha.on bC
 replace hb:=hb.on bC
 replace o1:=o1.on bC
 replace bel:=bel.trans (bC.mono bel.size)
 replace qr:=qr.later bC
 replace qx:=qx.later bC
 replace qy:=qy.later bC
 replace qo:=qo.later bC
 replace hHeld:=(⟨below_cell bC hHeld.1,below_cell bC hHeld.2.1,below_cell bC hHeld.2.2.1,below_cell bC hHeld.2.2.2.1,below_cell bC hHeld.2.2.2.2.1,below_cell bC hHeld.2.2.2.2.2.1,below_cell bC hHeld.2.2.2.2.2.2.1,below_cell bC hHeld.2.2.2.2.2.2.2.1,below_cell bC hHeld.2.2.2.2.2.2.2.2⟩:_∧_∧_∧_∧_∧_∧_∧_∧_)
 clear bC
 go_wp2_with fail
 clear b1
 refine hKK.out _ _ hHeld ?_
 clear hHeld
 intro hHeld
 clear hKK KK
 try simp only [pP,pN,pS,pZ,pC]
 refine wpAnyH_ready (rs:=[6]) (by kernel_rfl) (by simp) ?_
 refine cons' rfl (fun KK hKK=>?_)
 go_simp
 refine (GSb.out _ hb hA).mono ?_
 rintro e w3 ⟨p3,q3,rfl,b1,o3⟩
 have bC:=b1
 replace hA:=hA.on bC
 replace ha:=ha.on bC
 replace hb:=hb.on bC
 replace o1:=o1.on bC
 replace o2:=o2.on bC
 replace bel:=bel.trans (bC.mono bel.size)
 replace qr:=qr.later bC
 replace qx:=qx.later bC
 replace qy:=qy.later bC
 replace qo:=qo.later bC
 replace hHeld:=(⟨below_cell bC hHeld.1,below_cell bC hHeld.2.1,below_cell bC hHeld.2.2.1,below_cell bC hHeld.2.2.2.1,below_cell bC hHeld.2.2.2.2.1,below_cell bC hHeld.2.2.2.2.2.1,below_cell bC hHeld.2.2.2.2.2.2.1,below_cell bC hHeld.2.2.2.2.2.2.2.1,below_cell bC hHeld.2.2.2.2.2.2.2.2⟩:_∧_∧_∧_∧_∧_∧_∧_∧_)
 clear bC
 go_wp2_with fail
 clear b1
 refine hKK.out _ _ hHeld ?_
 clear hHeld
 intro hHeld
 clear hKK KK
 try simp only [pP,pN,pS,pZ,pC]
 refine wpAnyH_ready (rs:=[7]) (by kernel_rfl) (by simp) ?_
 refine cons' rfl (fun KK hKK=>?_)
 go_simp
 refine (GAb.out _ p3 q3 o3).mono ?_
 rintro e w4 ⟨p4,q4,rfl,b1,o4⟩
 have bC:=b1
 replace hA:=hA.on bC
 replace ha:=ha.on bC
 replace hb:=hb.on bC
 replace o1:=o1.on bC
 replace o2:=o2.on bC
 replace o3:=o3.on bC
 replace bel:=bel.trans (bC.mono bel.size)
 replace qr:=qr.later bC
 replace qx:=qx.later bC
 replace qy:=qy.later bC
 replace qo:=qo.later bC
 replace hHeld:=(⟨below_cell bC hHeld.1,below_cell bC hHeld.2.1,below_cell bC hHeld.2.2.1,below_cell bC hHeld.2.2.2.1,below_cell bC hHeld.2.2.2.2.1,below_cell bC hHeld.2.2.2.2.2.1,below_cell bC hHeld.2.2.2.2.2.2.1,below_cell bC hHeld.2.2.2.2.2.2.2.1,below_cell bC hHeld.2.2.2.2.2.2.2.2⟩:_∧_∧_∧_∧_∧_∧_∧_∧_)
 clear bC
 go_wp2_with fail
 clear b1
 refine hKK.out _ _ hHeld ?_
 clear hHeld
 intro hHeld
 clear hKK KK
 try simp only [pP,pN,pS,pZ,pC]
 refine wpAnyH_ready (rs:=[8]) (by kernel_rfl) (by simp) ?_
 refine cons' rfl (fun KK hKK=>?_)
 go_simp
 refine (GC1.out _ p2 q2 p4 q4 o2 o4).mono ?_
 rintro e w5 ⟨rfl,b1⟩
 have bC:=b1
 replace hA:=hA.on bC
 replace ha:=ha.on bC
 replace hb:=hb.on bC
 replace o1:=o1.on bC
 replace o2:=o2.on bC
 replace o3:=o3.on bC
 replace o4:=o4.on bC
 replace bel:=bel.trans (bC.mono bel.size)
 replace qr:=qr.later bC
 replace qx:=qx.later bC
 replace qy:=qy.later bC
 replace qo:=qo.later bC
 replace hHeld:=(⟨below_cell bC hHeld.1,below_cell bC hHeld.2.1,below_cell bC hHeld.2.2.1,below_cell bC hHeld.2.2.2.1,below_cell bC hHeld.2.2.2.2.1,below_cell bC hHeld.2.2.2.2.2.1,below_cell bC hHeld.2.2.2.2.2.2.1,below_cell bC hHeld.2.2.2.2.2.2.2.1,below_cell bC hHeld.2.2.2.2.2.2.2.2⟩:_∧_∧_∧_∧_∧_∧_∧_∧_)
 clear bC
 go_wp2_with fail
 clear b1
 refine hKK.out _ _ hHeld ?_
 clear hHeld
 intro hHeld
 clear hKK KK
 try simp only [pP,pN,pS,pZ,pC]
 refine wpAnyH_ready (rs:=[13]) (by kernel_rfl) (by simp) ?_
 refine cons' rfl (fun KK hKK=>?_)
 go_simp
 refine (GC2.out _ ha.2.2.2.1 hb.2.2.2.1).mono ?_
 rintro e w6 ⟨rfl,b1⟩
 have bC:=b1
 replace hA:=hA.on bC
 replace ha:=ha.on bC
 replace hb:=hb.on bC
 replace o1:=o1.on bC
 replace o2:=o2.on bC
 replace o3:=o3.on bC
 replace o4:=o4.on bC
 replace bel:=bel.trans (bC.mono bel.size)
 replace qr:=qr.later bC
 replace qx:=qx.later bC
 replace qy:=qy.later bC
 replace qo:=qo.later bC
 replace hHeld:=(⟨below_cell bC hHeld.1,below_cell bC hHeld.2.1,below_cell bC hHeld.2.2.1,below_cell bC hHeld.2.2.2.1,below_cell bC hHeld.2.2.2.2.1,below_cell bC hHeld.2.2.2.2.2.1,below_cell bC hHeld.2.2.2.2.2.2.1,below_cell bC hHeld.2.2.2.2.2.2.2.1,below_cell bC hHeld.2.2.2.2.2.2.2.2⟩:_∧_∧_∧_∧_∧_∧_∧_∧_)
 clear bC
 go_wp2_with fail
 clear b1
 refine hKK.out _ _ hHeld ?_
 clear hHeld
 intro hHeld
 clear hKK KK
 try simp only [pP,pN,pS,pZ,pC]
 refine wpAnyH_ready (rs:=[16]) (by kernel_rfl) (by simp) ?_
 refine cons' rfl (fun KK hKK=>?_)
 go_simp
 refine (GC3.out _ ha hb).mono ?_
 rintro e w7 ⟨rfl,b1⟩
 have bC:=b1
 replace hA:=hA.on bC
 replace ha:=ha.on bC
 replace hb:=hb.on bC
 replace o1:=o1.on bC
 replace o2:=o2.on bC
 replace o3:=o3.on bC
 replace o4:=o4.on bC
 replace bel:=bel.trans (bC.mono bel.size)
 replace qr:=qr.later bC
 replace qx:=qx.later bC
 replace qy:=qy.later bC
 replace qo:=qo.later bC
 replace hHeld:=(⟨below_cell bC hHeld.1,below_cell bC hHeld.2.1,below_cell bC hHeld.2.2.1,below_cell bC hHeld.2.2.2.1,below_cell bC hHeld.2.2.2.2.1,below_cell bC hHeld.2.2.2.2.2.1,below_cell bC hHeld.2.2.2.2.2.2.1,below_cell bC hHeld.2.2.2.2.2.2.2.1,below_cell bC hHeld.2.2.2.2.2.2.2.2⟩:_∧_∧_∧_∧_∧_∧_∧_∧_)
 clear bC
 go_wp2_with fail
 clear b1
 refine hKK.out _ _ hHeld ?_
 clear hHeld
 intro hHeld
 clear hKK KK
 try simp only [pP,pN,pS,pZ,pC]
 refine wpAnyH_ready (rs:=[17]) (by kernel_rfl) (by simp) ?_
 refine cons' rfl (fun KK hKK=>?_)
 go_simp
 have q3b:=Blk.new w7 #[.int .i64 C1,.int .i64 C2,.int .i64 C3] 3
 have bA:=below_alloc (w:=w7) (.cells #[.int .i64 C1,.int .i64 C2,.int .i64 C3] 3)
 have hq3bge:=bel.size
 have hq3bqr:=qr.lt
 have hq3bqx:=qx.lt
 have hq3bqy:=qy.lt
 have hq3bqo:=qo.lt
 have hq3bc0:=cell_ltB hHeld.1
 have hq3bc1:=cell_ltB hHeld.2.1
 have hq3bc2:=cell_ltB hHeld.2.2.1
 have hq3bc3:=cell_ltB hHeld.2.2.2.1
 have hq3bc4:=cell_ltB hHeld.2.2.2.2.1
 have hq3bc5:=cell_ltB hHeld.2.2.2.2.2.1
 have hq3bc6:=cell_ltB hHeld.2.2.2.2.2.2.1
 have hq3bc7:=cell_ltB hHeld.2.2.2.2.2.2.2.1
 have hq3bc8:=cell_ltB hHeld.2.2.2.2.2.2.2.2
 generalize w7.alloc (.cells #[.int .i64 C1,.int .i64 C2,.int .i64 C3] 3)=w8 at q3b bA ⊢
 replace hA:=hA.on bA
 replace ha:=ha.on bA
 replace hb:=hb.on bA
 replace o1:=o1.on bA
 replace o2:=o2.on bA
 replace o3:=o3.on bA
 replace o4:=o4.on bA
 replace bel:=bel.trans (bA.mono bel.size)
 replace qr:=qr.later bA
 replace qx:=qx.later bA
 replace qy:=qy.later bA
 replace qo:=qo.later bA
 replace hHeld:=(⟨below_cell bA hHeld.1,below_cell bA hHeld.2.1,below_cell bA hHeld.2.2.1,below_cell bA hHeld.2.2.2.1,below_cell bA hHeld.2.2.2.2.1,below_cell bA hHeld.2.2.2.2.2.1,below_cell bA hHeld.2.2.2.2.2.2.1,below_cell bA hHeld.2.2.2.2.2.2.2.1,below_cell bA hHeld.2.2.2.2.2.2.2.2⟩:_∧_∧_∧_∧_∧_∧_∧_∧_)
 clear bA
 refine hKK.out _ _ hHeld ?_
 clear hHeld
 intro hHeld
 clear hKK KK
 try simp only [pP,pN,pS,pZ,pC]
 obtain ⟨cq3b,hcc⟩:∃ cc,w7.heap.size=cc:=⟨_,rfl⟩
 rw [hcc] at q3b hq3bge hq3bqr hq3bqx hq3bqy hq3bqo hq3bc0 hq3bc1 hq3bc2 hq3bc3 hq3bc4 hq3bc5 hq3bc6 hq3bc7 hq3bc8
 try rw [hcc]
 clear hcc
 refine wpAnyH_ready (rs:=[18]) (by kernel_rfl) (by simp) ?_
 refine cons' rfl (fun KK hKK=>?_)
 go_simp
 refine (GO.out _ _ q3b).mono ?_
 rintro e w9 ⟨rfl,b1⟩
 have bC:=b1
 replace hA:=hA.on bC
 replace ha:=ha.on bC
 replace hb:=hb.on bC
 replace o1:=o1.on bC
 replace o2:=o2.on bC
 replace o3:=o3.on bC
 replace o4:=o4.on bC
 replace bel:=bel.trans (bC.mono bel.size)
 replace qr:=qr.later bC
 replace qx:=qx.later bC
 replace qy:=qy.later bC
 replace qo:=qo.later bC
 replace q3b:=q3b.later bC
 replace hHeld:=(⟨below_cell bC hHeld.1,below_cell bC hHeld.2.1,below_cell bC hHeld.2.2.1,below_cell bC hHeld.2.2.2.1,below_cell bC hHeld.2.2.2.2.1,below_cell bC hHeld.2.2.2.2.2.1,below_cell bC hHeld.2.2.2.2.2.2.1,below_cell bC hHeld.2.2.2.2.2.2.2.1,below_cell bC hHeld.2.2.2.2.2.2.2.2⟩:_∧_∧_∧_∧_∧_∧_∧_∧_)
 clear bC
 go_wp2_with fail
 clear b1
 refine hKK.out _ _ hHeld ?_
 clear hHeld
 intro hHeld
 clear hKK KK
 try simp only [pP,pN,pS,pZ,pC]
 refine tk 19 (v:=?_) rfl (Or.inl ⟨by rfl,?_⟩) ?_
 rotate_left
 ·intro w9 hSw
  go_simp
  first | done | with_reducible rfl
 simp only [pP,pN,pS,pZ,pC]
 refine wpAnyH_done (by kernel_rfl) ?_ _
 skip
 clear GSa GAa GSb GAb GC1 GC2 GC3 GO o1 o2 o3 o4 q3b
 by_cases hO0:O < 0
 ·skip
  have HA:=hide' (HO.out.1 hO0)
  have qx_0:=qx.cell 0
  have qx_1:=qx.cell 1
  have qx_2:=qx.cell 2
  simp only [List.getElem?_toArray,List.getElem?_cons_zero,List.getElem?_cons_succ] at qx_0 qx_1 qx_2
  have qo_0:=qo.cell 0
  have qo_1:=qo.cell 1
  have qo_2:=qo.cell 2
  simp only [List.getElem?_toArray,List.getElem?_cons_zero,List.getElem?_cons_succ] at qo_0 qo_1 qo_2
  have fz:=fun o=>qo.frozen o
  go_wp2
  obtain ⟨c9,q9⟩:=qo.set3 (.bool (ng a.num)) (.slice pa (ln (am a.num)) (ln (am a.num))) (.slice qa (ln a.den) (ln a.den))
  have hno:=qo.no (by simp)
  replace qr:=qr.ch c9 (by omega)
  replace qx:=qx.ch c9 (by omega)
  replace qy:=qy.ch c9 (by omega)
  replace hA:=hA.ch c9 hno
  replace ha:=ha.ch c9 hno
  replace hb:=hb.ch c9 hno
  replace bel:=bel.trans (c9.below (by omega))
  clear qo_0 qo_1 qo_2
  clear fz hno
  replace qo:=q9
  have qo_0:=qo.cell 0
  have qo_1:=qo.cell 1
  have qo_2:=qo.cell 2
  simp only [List.getElem?_toArray,List.getElem?_cons_zero,List.getElem?_cons_succ] at qo_0 qo_1 qo_2
  refine bodyPost_ret (v:=.agg #[.bool (ng a.num),.slice pa (ln (am a.num)) (ln (am a.num)),.slice qa (ln a.den) (ln a.den)]) (by rw [results_cell rfl];go_simp) rfl ?_
  exact ⟨a,pa,qa,Or.inl ⟨HA.out,rfl⟩,rfl,bel,ha⟩
 ·skip
  have HA:=hide' (fun h=>hO0 (HO.out.2 h))
  have qy_0:=qy.cell 0
  have qy_1:=qy.cell 1
  have qy_2:=qy.cell 2
  simp only [List.getElem?_toArray,List.getElem?_cons_zero,List.getElem?_cons_succ] at qy_0 qy_1 qy_2
  have qo_0:=qo.cell 0
  have qo_1:=qo.cell 1
  have qo_2:=qo.cell 2
  simp only [List.getElem?_toArray,List.getElem?_cons_zero,List.getElem?_cons_succ] at qo_0 qo_1 qo_2
  have fz:=fun o=>qo.frozen o
  go_wp2
  obtain ⟨c9,q9⟩:=qo.set3 (.bool (ng b.num)) (.slice pb (ln (am b.num)) (ln (am b.num))) (.slice qb (ln b.den) (ln b.den))
  have hno:=qo.no (by simp)
  replace qr:=qr.ch c9 (by omega)
  replace qx:=qx.ch c9 (by omega)
  replace qy:=qy.ch c9 (by omega)
  replace hA:=hA.ch c9 hno
  replace ha:=ha.ch c9 hno
  replace hb:=hb.ch c9 hno
  replace bel:=bel.trans (c9.below (by omega))
  clear qo_0 qo_1 qo_2
  clear fz hno
  replace qo:=q9
  have qo_0:=qo.cell 0
  have qo_1:=qo.cell 1
  have qo_2:=qo.cell 2
  simp only [List.getElem?_toArray,List.getElem?_cons_zero,List.getElem?_cons_succ] at qo_0 qo_1 qo_2
  refine bodyPost_ret (v:=.agg #[.bool (ng b.num),.slice pb (ln (am b.num)) (ln (am b.num)),.slice qb (ln b.den) (ln b.den)]) (by rw [results_cell rfl];go_simp) rfl ?_
  exact ⟨b,pb,qb,Or.inr ⟨HA.out,rfl⟩,rfl,bel,hb⟩
end Go.Proofs.YtejlnodillnoaaaGreatDoor
