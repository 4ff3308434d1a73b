import Derived.Test.YtfppjaoddicgpaaGreatDoorOpenQ
import Derived.Deep.Slices
import Derived.Test.YtfppjaoddicgpaaGreatDoorNumQ
import Derived.Test.YtfppjaoddicgpaaGreatDoorWQ9
import Derived.Test.YtfppjaoddicgpaaGreatDoorWQ4
import Derived.Test.YtfppjaoddicgpaaGreatDoorWQ5
import Derived.Test.YtfppjaoddicgpaaGreatDoorWQC
import Derived.Test.YtfppjaoddicgpaaGreatDoorWQN
import Derived.Test.YtfppjaoddicgpaaGreatDoorWQA
import Derived.Test.YtfppjaoddicgpaaGreatDoorWD1
import Derived.Test.YtfppjaoddicgpaaGreatDoorWD2
import Derived.Test.YtfppjaoddicgpaaGreatDoorOWD
import Derived.Test.YtfppjaoddicgpaaGreatDoorWQB
import Derived.Test.YtfppjaoddicgpaaGreatDoorThr3
set_option linter.unusedSimpArgs false
namespace Go.Proofs.YtfppjaoddicgpaaGreatDoor
open Go.ChangeShapes Go.WideShapes Go.ChangeAt Go.RowKit Go.Deep
set_option linter.unusedVariables false
structure RatV where
 s:Bool
 a:Option Addr
 n:Nat
 c:Nat
 X:Nat
 b:Option Addr
 m:Nat
 e:Nat
 Y:Nat
instance:Inhabited RatV:=⟨⟨false,none,0,0,0,none,0,0,0⟩⟩
def RatV.ok (W:World) (q:RatV):Prop:=Seg W q.a q.X q.n∧q.n≤q.c∧q.n≤35184372087808∧Seg W q.b q.Y q.m∧q.m≤q.e∧q.m≤35184372087808
def RatV.lies (W:World) (b off:Nat) (q:RatV):Prop :=
 W.cell? ⟨b,off,none⟩=some (.bool q.s)∧W.cell? ⟨b,off+1,none⟩=some (.slice q.a q.n q.c)∧W.cell? ⟨b,off+2,none⟩=some (.slice q.b q.m q.e)
def lq (q:Nat→RatV) (n:Nat):List (Int × Nat):=(List.range n).map fun i=>(rn (q i).s (q i).X (q i).Y,rd (q i).Y)
def RatV.val (q:RatV):Rat:=Rat.divInt (rn q.s q.X q.Y) ((rd q.Y:Nat):Int)
theorem low_of {A D:Int} {r:Rat} (hD:D≠0) (h:r=Rat.divInt A D):Low A D r.num r.den:=by
 refine ⟨hD,r.den_pos,?_,r.reduced⟩
 have hd:(r.den:Int)≠0:=by have:=r.den_pos;omega
 have e:Rat.divInt r.num r.den=Rat.divInt A D:=by rw [Rat.num_divInt_den];exact h
 exact (Rat.divInt_eq_divInt_iff hd hD).1 e
theorem RatV.val_low (q:RatV):Low (rn q.s q.X q.Y) ((rd q.Y:Nat):Int) q.val.num q.val.den:=low_of (rd_ne _) rfl
theorem low_neg (p:RatV):Low (-(rn p.s p.X p.Y)) ((rd p.Y:Nat):Int) (-p.val).num (-p.val).den :=
 low_of (rd_ne _) (by unfold RatV.val;rw [Rat.neg_divInt])
theorem val_of (r:Rat) (a b:Option Addr):(⟨ng r.num,a,ln (am r.num),ln (am r.num),am r.num,b,ln r.den,ln r.den,r.den⟩:RatV).val=r:=by
 unfold RatV.val
 show Rat.divInt (rn (ng r.num) (am r.num) r.den) ((rd r.den:Nat):Int)=r
 rw [rn_nf r.den_pos,rd_nf r.den_pos,Rat.num_divInt_den]
abbrev Fo:=List (Int × Rat)
def co (x:Int):Fo→Rat
 | []=>0
 | p :: l=>(if p.1=x then p.2 else 0)+co x l
def nrm (l:Fo):Prop:=l.Pairwise (fun a b=>a.1 < b.1)∧∀ p∈l,p.2≠0
theorem co_zero {x:Int}:∀ {l:Fo},(∀ p∈l,p.1≠x)→co x l=0
 | [],_=>rfl
 | p :: l,h=>by
  simp only [co]
  rw [if_neg (h p List.mem_cons_self),co_zero fun q hq=>h q (List.mem_cons_of_mem _ hq)]
  exact Rat.add_zero _
theorem nrm.tail {p:Int × Rat} {l:Fo} (h:nrm (p :: l)):nrm l:=⟨(List.pairwise_cons.1 h.1).2,fun q hq=>h.2 q (List.mem_cons_of_mem _ hq)⟩
theorem nrm.head {p:Int × Rat} {l:Fo} (h:nrm (p :: l)):∀ q∈l,p.1 < q.1:=(List.pairwise_cons.1 h.1).1
theorem nrm.nil:nrm []:=⟨List.Pairwise.nil,fun p hp=>absurd hp (by simp)⟩
theorem nrm.co_head {p:Int × Rat} {l:Fo} (h:nrm (p :: l)):co p.1 (p :: l)=p.2:=by
 simp only [co,if_true]
 rw [co_zero fun q hq=>by have:=h.head q hq;omega]
 exact Rat.add_zero _
theorem nrm.below {p:Int × Rat} {l:Fo} {x:Int} (h:nrm (p :: l)) (hx:x < p.1):co x (p :: l)=0 :=
 co_zero fun q hq=>by
  rcases List.mem_cons.1 hq with rfl | hq
  ·omega
  ·have:=h.head q hq;omega
theorem nrm.uniq:∀ {l m:Fo},nrm l→nrm m→(∀ x,co x l=co x m)→l=m
 | [],[],_,_,_=>rfl
 | [],q :: m,_,hm,h=>by
  have:=h q.1
  rw [hm.co_head] at this
  exact absurd this.symm (hm.2 q List.mem_cons_self)
 | p :: l,[],hl,_,h=>by
  have:=h p.1
  rw [hl.co_head] at this
  exact absurd this (hl.2 p List.mem_cons_self)
 | p :: l,q :: m,hl,hm,h=>by
  have e1:p.1=q.1:=by
   rcases Int.lt_trichotomy p.1 q.1 with h1 | h1 | h1
   ·have:=h p.1
    rw [hl.co_head,hm.below h1] at this
    exact absurd this (hl.2 p List.mem_cons_self)
   ·exact h1
   ·have:=h q.1
    rw [hm.co_head,hl.below h1] at this
    exact absurd this.symm (hm.2 q List.mem_cons_self)
  have e2:p.2=q.2:=by
   have:=h p.1
   rw [hl.co_head,e1,hm.co_head] at this
   exact this
  have e:p=q:=Prod.ext e1 e2
  subst e
  rw [nrm.uniq hl.tail hm.tail fun x=>by
   have:=h x
   simp only [co] at this
   grind]
theorem nrm.cons {p:Int × Rat} {l:Fo} (h:nrm l) (h1:∀ q∈l,p.1 < q.1) (h2:p.2≠0):nrm (p :: l) :=
 ⟨List.pairwise_cons.2 ⟨h1,h.1⟩,fun q hq=>by
  rcases List.mem_cons.1 hq with rfl | hq
  ·exact h2
  ·exact h.2 q hq⟩
def wt (r:Rat):Nat:=ln (am r.num)+ln r.den+1
def wts:Fo→Nat
 | []=>0
 | p :: l=>wt p.2+wts l
theorem co_le (x:Int):∀ (l:Fo),∃ (A:Int) (D:Nat),0 < D∧co x l=Rat.divInt A (D:Nat)∧am A≤BB ^ wts l∧D≤BB ^ wts l
 | []=>⟨0,1,Nat.one_pos,by rw [Rat.zero_divInt];rfl,Nat.zero_le _,Nat.le_refl _⟩
 | p :: l=>by
  obtain ⟨A,D,hD,e,h1,h2⟩:=co_le x l
  have hB:∀ {i j:Nat},i≤j→BB ^ i≤BB ^ j:=fun h=>pow_mono h
  simp only [co,wts]
  split
  ·obtain ⟨r,hr⟩:∃ r,p.2=r:=⟨_,rfl⟩
   rw [hr]
   have hd:=r.den_pos
   refine ⟨r.num*(D:Nat)+A*(r.den:Nat),r.den*D,Nat.mul_pos hd hD,?_,?_⟩
   ·rw [e]
    have:=Rat.divInt_add_divInt r.num A (d₁:=(r.den:Int)) (d₂:=((D:Nat):Int)) (by omega) (by omega)
    rw [Rat.num_divInt_den] at this
    rw [this,Int.natCast_mul]
   ·have k1:am r.num≤BB ^ ln (am r.num):=Nat.le_of_lt (ln_lt _)
    have k2:r.den≤BB ^ ln r.den:=Nat.le_of_lt (ln_lt _)
    have p1:r.den*D≤BB ^ (ln r.den+wts l):=by rw [Nat.pow_add];exact Nat.mul_le_mul k2 h2
    have p2:am (r.num*(D:Nat))≤BB ^ (ln (am r.num)+wts l):=by rw [am_mul,Nat.pow_add];exact Nat.mul_le_mul k1 h2
    have p3:am (A*(r.den:Nat))≤BB ^ (wts l+ln r.den):=by rw [am_mul,Nat.pow_add];exact Nat.mul_le_mul h1 k2
    have q1:BB ^ (ln r.den+wts l)≤BB ^ (ln (am r.num)+ln r.den+wts l):=hB (by omega)
    have q2:BB ^ (ln (am r.num)+wts l)≤BB ^ (ln (am r.num)+ln r.den+wts l):=hB (by omega)
    have q3:BB ^ (wts l+ln r.den)≤BB ^ (ln (am r.num)+ln r.den+wts l):=hB (by omega)
    have p6:BB ^ (wt r+wts l)=BB ^ (ln (am r.num)+ln r.den+wts l)*BB:=by rw [←Nat.pow_succ];congr 1;unfold wt;omega
    have p7:am (r.num*(D:Nat)+A*(r.den:Nat))≤am (r.num*(D:Nat))+am (A*(r.den:Nat)):=Int.natAbs_add_le _ _
    rw [p6]
    generalize BB ^ (ln (am r.num)+ln r.den+wts l)=T at *
    have p8:T*2≤T*BB:=Nat.mul_le_mul_left _ (by rw [BB_eq];omega)
    constructor <;> omega
  ·refine ⟨A,D,hD,by rw [e,Rat.zero_add],Nat.le_trans h1 (hB (by omega)),Nat.le_trans h2 (hB (by omega))⟩
def sz (N:Nat) (r:Rat):Prop:=ln (am r.num)≤N∧ln r.den≤N
theorem co_sz (x:Int) (l:Fo):sz (wts l+1) (co x l):=by
 obtain ⟨A,D,hD,e,h1,h2⟩:=co_le x l
 have hl:BB ^ wts l < BB ^ (wts l+1):=by
  rw [Nat.pow_succ]
  have:0 < BB ^ wts l:=by rw [BB_eq];exact Nat.pow_pos (by omega)
  have h3:BB ^ wts l*2≤BB ^ wts l*BB:=Nat.mul_le_mul_left _ (by rw [BB_eq];omega)
  omega
 exact ln1 (low_of (by omega) e) (Nat.lt_of_le_of_lt h1 hl) (by show am ((D:Nat):Int) < _;exact Nat.lt_of_le_of_lt h2 hl) (Nat.le_refl _) (Nat.le_refl _)
theorem sz.mono {N M:Nat} {r:Rat} (h:sz N r) (hM:N≤M):sz M r:=⟨Nat.le_trans h.1 hM,Nat.le_trans h.2 hM⟩
open Go.RowKit
theorem RatV.ok.on {w w':World} {q:RatV} (h:q.ok w) (hb:Below w.heap.size w w'):q.ok w':=⟨h.1.later hb,h.2.1,h.2.2.1,h.2.2.2.1.later hb,h.2.2.2.2.1,h.2.2.2.2.2⟩
def nR (r:Rat) (p q:Option Addr):RatV:=⟨ng r.num,p,ln (am r.num),ln (am r.num),am r.num,q,ln r.den,ln r.den,r.den⟩
theorem nR_val (r:Rat) (p q:Option Addr):(nR r p q).val=r:=val_of r p q
def QA (w:World) (r:Rat) (e:Ending) (w':World):Prop:=∃ p q,e=.returned (.agg #[.bool (ng r.num),.slice p (ln (am r.num)) (ln (am r.num)),.slice q (ln r.den) (ln r.den)])∧Below w.heap.size w w'∧(nR r p q).ok w'
theorem szV {w:World} {q:RatV} (h:q.ok w) {N:Nat} (h1:q.n≤N) (h2:q.m+1≤N):sz N q.val:=by
 have l1:=Nat.lt_of_le_of_lt (rn_am q.s q.X q.Y) h.1.1
 have l2:=rd_lt h.2.2.2.1.1
 exact ln1 q.val_low l1 (by rw [am_nat];exact l2) h1 h2
theorem sz_addY {r t:Rat} {N M:Nat} (h:sz N r) (k:sz M t):sz (2*N+2*M+3) (r+t):=by
 have e:co 0 [(0,r),(0,t)]=r+t:=by simp [co];grind
 rw [←e]
 refine (co_sz 0 _).mono ?_
 simp only [wts,wt]
 have:=h.1;have:=h.2;have:=k.1;have:=k.2
 omega
theorem sz_negY {r:Rat} {N:Nat} (h:sz N r):sz N (-r):=⟨by rw [Rat.neg_num,am_neg];exact h.1,by rw [Rat.neg_den];exact h.2⟩
theorem sz_mulY {r t:Rat} {N M:Nat} (h:sz N r) (k:sz M t):sz (N+M) (r*t):=by
 have e:r*t=Rat.divInt (r.num*t.num) ((r.den:Int)*(t.den:Int)):=by
  rw [←Rat.divInt_mul_divInt,Rat.num_divInt_den,Rat.num_divInt_den]
 have hl:=(low_of (Int.mul_ne_zero (by have:=r.den_pos;omega) (by have:=t.den_pos;omega)) e).le
 have a1:=lt_prod (i:=N) (j:=M) (Nat.lt_of_lt_of_le (ln_lt (am r.num)) (pow_mono h.1)) (Nat.lt_of_lt_of_le (ln_lt (am t.num)) (pow_mono k.1))
 have a2:=lt_prod (i:=N) (j:=M) (a:=(r.den:Int)) (b:=(t.den:Int)) (Nat.lt_of_lt_of_le (by rw [am_nat];exact ln_lt r.den) (pow_mono h.2)) (Nat.lt_of_lt_of_le (by rw [am_nat];exact ln_lt t.den) (pow_mono k.2))
 exact ⟨ln_le_of_lt (Nat.lt_of_le_of_lt hl.1 a1),ln_le_of_lt (Nat.lt_of_le_of_lt hl.2 a2)⟩
theorem ok_nR {w w':World} {r:Rat} {p q:Option Addr} (hs:sz 100000000 r) (h1:New w w' p (am r.num) (ln (am r.num))) (h2:New w w' q r.den (ln r.den)):(nR r p q).ok w' :=
 ⟨h1.seg,Nat.le_refl _,Nat.le_trans hs.1 (by omega),h2.seg,Nat.le_refl _,Nat.le_trans hs.2 (by omega)⟩
def sR (r:Rat):Int:=sgn r.num
theorem sR_divInt {A:Int} {D:Int} (h:0 < D):sR (Rat.divInt A D)=sgn A:=by
 have hl:=low_of (A:=A) (D:=D) (Int.ne_of_gt h) rfl
 have e:=hl.eq
 have p:=hl.pos
 unfold sR
 have h1:sgn (A*((Rat.divInt A D).den:Int))=sgn ((Rat.divInt A D).num*D):=by rw [e]
 rw [sgn_mul_pos (by omega),sgn_mul_pos h] at h1
 exact h1.symm
theorem sR_val (q:RatV):sgn (rn q.s q.X q.Y)=sR q.val:=(sR_divInt (by have:=rd_pos q.Y;omega)).symm
theorem sR_sub (p q:RatV):sgn (rn p.s p.X p.Y*(rd q.Y:Nat) - rn q.s q.X q.Y*(rd p.Y:Nat))=sR (p.val - q.val):=by
 have e:p.val - q.val=Rat.divInt (rn p.s p.X p.Y*(rd q.Y:Nat) - rn q.s q.X q.Y*(rd p.Y:Nat)) ((rd p.Y:Nat)*(rd q.Y:Nat)):=by
  unfold RatV.val
  rw [Rat.divInt_sub_divInt _ _ (rd_ne _) (rd_ne _)]
 have p1:=rd_pos p.Y
 have p2:=rd_pos q.Y
 rw [e,sR_divInt (Int.mul_pos (by omega) (by omega))]
theorem low_subY (p q:RatV):Low (rn p.s p.X p.Y*(rd q.Y:Nat)+-(rn q.s q.X q.Y)*(rd p.Y:Nat)) ((rd p.Y:Nat)*(rd q.Y:Nat)) (p.val - q.val).num (p.val - q.val).den :=
 low_of (Int.mul_ne_zero (rd_ne _) (rd_ne _)) (by
  unfold RatV.val
  rw [Rat.divInt_sub_divInt _ _ (rd_ne _) (rd_ne _),Int.neg_mul,Int.sub_eq_add_neg])
theorem rn_nz {q:RatV} (h:q.val≠0):rn q.s q.X q.Y≠0:=fun e=>h (by unfold RatV.val;rw [e,Rat.zero_divInt])
theorem low_divY (p q:RatV) (h:q.val≠0):Low (rn p.s p.X p.Y*(rd q.Y:Nat)) ((rd p.Y:Nat)*rn q.s q.X q.Y) (p.val / q.val).num (p.val / q.val).den :=
 low_of (Int.mul_ne_zero (rd_ne _) (rn_nz h)) (by
  unfold RatV.val
  rw [Rat.div_def,Rat.inv_divInt,Rat.divInt_mul_divInt])
theorem cmpQ (A B:RatV) (w:World) (hA:A.ok w) (hB:B.ok w) (hn:A.n≤100000000∧A.m≤100000000∧B.n≤100000000∧B.m≤100000000) (C:Int) (hS:sR (A.val - B.val)=C):Calls Tryz.prog 52 #[.agg #[.bool A.s,.slice A.a A.n A.c,.slice A.b A.m A.e],.agg #[.bool B.s,.slice B.a B.n B.c,.slice B.b B.m B.e]] w fun e w1=>e=.returned (.int .i64 C)∧Below w.heap.size w w1 :=
 qCmp_is A.s A.a A.n A.c A.X A.b A.m A.e A.Y B.s B.a B.n B.c B.X B.b B.m B.e B.Y C w hA.2.1 (by omega) hA.1 hA.2.2.2.2.1 (by omega) hA.2.2.2.1 hB.2.1 (by omega) hB.1 hB.2.2.2.2.1 (by omega) hB.2.2.2.1 ((sR_sub A B).trans hS)
structure DelV where
 a:RatV
 b:RatV
def DelV.ok (w:World) (d:DelV):Prop:=d.a.ok w∧d.b.ok w
def DelV.val (d:DelV):Rat × Rat:=(d.a.val,d.b.val)
def DelV.short (d:DelV):Prop:=d.a.n≤100000000∧d.a.m≤100000000∧d.b.n≤100000000∧d.b.m≤100000000
theorem DelV.ok.on {w w':World} {d:DelV} (h:d.ok w) (hb:Below w.heap.size w w'):d.ok w':=⟨h.1.on hb,h.2.on hb⟩
def nD (x:Rat × Rat) (p q r t:Option Addr):DelV:=⟨nR x.1 p q,nR x.2 r t⟩
def cmpD (x y:Rat × Rat):Int:=dsg (sR (x.1 - y.1)) (sR (x.2 - y.2))
def ltD (x y:Rat × Rat):Prop:=x.1 < y.1∨(x.1=y.1∧x.2 < y.2)
theorem sR_cases (r:Rat):(r < 0∧sR r = -1)∨(r=0∧sR r=0)∨(0 < r∧sR r=1):=by
 have hn:r < 0↔r.num < 0:=by
  rw [Rat.lt_iff]
  show r.num*1 < 0*(r.den:Int)↔_
  omega
 have hp:0 < r↔0 < r.num:=by
  rw [Rat.lt_iff]
  show 0*(r.den:Int) < r.num*1↔_
  omega
 unfold sR
 rcases Int.lt_trichotomy r.num 0 with h | h | h
 ·exact Or.inl ⟨hn.2 h,sgn_neg h⟩
 ·exact Or.inr (Or.inl ⟨Rat.num_eq_zero.1 h,by rw [h];rfl⟩)
 ·exact Or.inr (Or.inr ⟨hp.2 h,sgn_pos h⟩)
theorem cmpD_cases (x y:Rat × Rat):(ltD x y∧cmpD x y = -1)∨(x=y∧cmpD x y=0)∨(ltD y x∧cmpD x y=1):=by
 obtain ⟨x1,x2⟩:=x
 obtain ⟨y1,y2⟩:=y
 unfold cmpD ltD
 simp only
 rcases sR_cases (x1 - y1) with ⟨h,e⟩ | ⟨h,e⟩ | ⟨h,e⟩ <;> rw [e]
 ·exact Or.inl ⟨Or.inl (by grind),rfl⟩
 ·have h1:x1=y1:=by grind
  rw [show dsg 0 (sR (x2 - y2))=sR (x2 - y2) from rfl]
  rcases sR_cases (x2 - y2) with ⟨k,f⟩ | ⟨k,f⟩ | ⟨k,f⟩ <;> rw [f]
  ·exact Or.inl ⟨Or.inr ⟨h1,by grind⟩,rfl⟩
  ·exact Or.inr (Or.inl ⟨by rw [h1,show x2=y2 by grind],rfl⟩)
  ·exact Or.inr (Or.inr ⟨Or.inr ⟨h1.symm,by grind⟩,rfl⟩)
 ·exact Or.inr (Or.inr ⟨Or.inl (by grind),rfl⟩)
theorem ltD.irrefl {x:Rat × Rat}:¬ ltD x x:=by unfold ltD;grind
theorem ltD.trans {x y z:Rat × Rat} (h:ltD x y) (k:ltD y z):ltD x z:=by unfold ltD at h k ⊢;grind
theorem cmpD_gt (x y:Rat × Rat):0 < cmpD x y↔ltD y x:=by
 rcases cmpD_cases x y with ⟨h,e⟩ | ⟨h,e⟩ | ⟨h,e⟩ <;> rw [e]
 ·exact ⟨fun k=>absurd k (by omega),fun k=>absurd (h.trans k) ltD.irrefl⟩
 ·exact ⟨fun k=>absurd k (by omega),fun k=>absurd (h ▸ k) ltD.irrefl⟩
 ·exact ⟨fun _=>h,fun _=>by omega⟩
def DA (w:World) (x:Rat × Rat) (e:Ending) (w':World):Prop :=
 ∃ p q r t,e=.returned (.agg #[.bool (ng x.1.num),.slice p (ln (am x.1.num)) (ln (am x.1.num)),.slice q (ln x.1.den) (ln x.1.den),.bool (ng x.2.num),.slice r (ln (am x.2.num)) (ln (am x.2.num)),.slice t (ln x.2.den) (ln x.2.den)])∧Below w.heap.size w w'∧(nD x p q r t).ok w'
theorem cmpDq (x y:DelV) (w:World) (hx:x.ok w) (hy:y.ok w) (hu:x.short) (hv:y.short):Calls Tryz.prog 49 #[.agg #[.bool x.a.s,.slice x.a.a x.a.n x.a.c,.slice x.a.b x.a.m x.a.e,.bool x.b.s,.slice x.b.a x.b.n x.b.c,.slice x.b.b x.b.m x.b.e],.agg #[.bool y.a.s,.slice y.a.a y.a.n y.a.c,.slice y.a.b y.a.m y.a.e,.bool y.b.s,.slice y.b.a y.b.n y.b.c,.slice y.b.b y.b.m y.b.e]] w fun e w1=>e=.returned (.int .i64 (cmpD x.val y.val))∧Below w.heap.size w w1:=by
 obtain ⟨u1,u2,u3,u4⟩:=hu
 obtain ⟨v1,v2,v3,v4⟩:=hv
 exact dCmp_is x.a.s x.a.a x.a.n x.a.c x.a.X x.a.b x.a.m x.a.e x.a.Y x.b.s x.b.a x.b.n x.b.c x.b.X x.b.b x.b.m x.b.e x.b.Y y.a.s y.a.a y.a.n y.a.c y.a.X y.a.b y.a.m y.a.e y.a.Y y.b.s y.b.a y.b.n y.b.c y.b.X y.b.b y.b.m y.b.e y.b.Y (sR (x.a.val - y.a.val)) (sR (x.b.val - y.b.val)) w hx.1.2.1 (by omega) hx.1.1 hx.1.2.2.2.2.1 (by omega) hx.1.2.2.2.1 hx.2.2.1 (by omega) hx.2.1 hx.2.2.2.2.2.1 (by omega) hx.2.2.2.2.1 hy.1.2.1 (by omega) hy.1.1 hy.1.2.2.2.2.1 (by omega) hy.1.2.2.2.1 hy.2.2.1 (by omega) hy.2.1 hy.2.2.2.2.2.1 (by omega) hy.2.2.2.2.1 (sR_sub x.a y.a) (sR_sub x.b y.b)
theorem vcmpDq (x y:DelV) (w:World) (hx:x.ok w) (hy:y.ok w) (hu:x.short) (hv:y.short):Calls Tryz.prog 38 #[.agg #[.bool x.a.s,.slice x.a.a x.a.n x.a.c,.slice x.a.b x.a.m x.a.e,.bool x.b.s,.slice x.b.a x.b.n x.b.c,.slice x.b.b x.b.m x.b.e],.agg #[.bool y.a.s,.slice y.a.a y.a.n y.a.c,.slice y.a.b y.a.m y.a.e,.bool y.b.s,.slice y.b.a y.b.n y.b.c,.slice y.b.b y.b.m y.b.e]] w fun e w1=>e=.returned (.int .i64 (cmpD x.val y.val))∧Below w.heap.size w w1:=by
 obtain ⟨u1,u2,u3,u4⟩:=hu
 obtain ⟨v1,v2,v3,v4⟩:=hv
 exact vdCmp_is x.a.s x.a.a x.a.n x.a.c x.a.X x.a.b x.a.m x.a.e x.a.Y x.b.s x.b.a x.b.n x.b.c x.b.X x.b.b x.b.m x.b.e x.b.Y y.a.s y.a.a y.a.n y.a.c y.a.X y.a.b y.a.m y.a.e y.a.Y y.b.s y.b.a y.b.n y.b.c y.b.X y.b.b y.b.m y.b.e y.b.Y (sR (x.a.val - y.a.val)) (sR (x.b.val - y.b.val)) w hx.1.2.1 (by omega) hx.1.1 hx.1.2.2.2.2.1 (by omega) hx.1.2.2.2.1 hx.2.2.1 (by omega) hx.2.1 hx.2.2.2.2.2.1 (by omega) hx.2.2.2.2.1 hy.1.2.1 (by omega) hy.1.1 hy.1.2.2.2.2.1 (by omega) hy.1.2.2.2.1 hy.2.2.1 (by omega) hy.2.1 hy.2.2.2.2.2.1 (by omega) hy.2.2.2.2.1 (sR_sub x.a y.a) (sR_sub x.b y.b)
abbrev Gp:=(Rat × Rat) × (Rat × Rat)
def nar (g:Gp):Prop:=g.2.2 < g.1.2
instance (g:Gp):Decidable (nar g):=inferInstanceAs (Decidable (_ < _))
def shutR (g:Gp):Rat:=(g.2.1 - g.1.1) / (g.1.2 - g.2.2)
def stepG (r:Rat) (g:Gp):Rat:=if nar g∧shutR g < r then shutR g else r
def smallG (l:List Gp):Rat:=l.foldl stepG 1
theorem smallG_snoc (l:List Gp) (g:Gp):smallG (l ++ [g])=stepG (smallG l) g:=by unfold smallG;rw [List.foldl_append];rfl
theorem stepG_le (r:Rat) (g:Gp):stepG r g≤r:=by
 unfold stepG
 split
 ·rename_i h;grind
 ·exact Rat.le_refl
theorem fold_le:∀ (l:List Gp) (r:Rat),l.foldl stepG r≤r
 | [],r=>Rat.le_refl
 | g :: l,r=>by
  have h1:=fold_le l (stepG r g)
  have h2:=stepG_le r g
  show l.foldl stepG (stepG r g)≤r
  grind
theorem fold_small {g:Gp} (hn:nar g):∀ (l:List Gp) (r:Rat),g∈l→l.foldl stepG r≤shutR g
 | [],r,h=>absurd h (by simp)
 | x :: l,r,h=>by
  show l.foldl stepG (stepG r x)≤shutR g
  rcases List.mem_cons.1 h with rfl | h
  ·have h1:=fold_le l (stepG r g)
   have h2:stepG r g≤shutR g:=by
    unfold stepG
    split
    ·exact Rat.le_refl
    ·rename_i h;grind
   grind
  ·exact fold_small hn l _ h
theorem small_le {g:Gp} {l:List Gp} (hn:nar g) (h:g∈l):smallG l≤shutR g:=fold_small hn l 1 h
theorem shut_mul {g:Gp} (h:nar g):shutR g*(g.1.2 - g.2.2)=g.2.1 - g.1.1:=by
 unfold shutR
 unfold nar at h
 exact Rat.div_mul_cancel (by grind)
def badG (g:Gp):Prop:=ltD g.2 g.1
theorem nar_high {g:Gp} (hb:¬ badG g) (hn:nar g):0 < g.2.1 - g.1.1:=by
 unfold badG ltD at hb
 unfold nar at hn
 grind
def atR (d:Rat × Rat) (t:Rat):Rat:=d.1+t*d.2
theorem tells {x y:Rat × Rat} {t:Rat} (h:ltD x y) (ht:0 < t) (hte:t < smallG [(x,y)]):atR x t < atR y t:=by
 have h1:(y.2 < x.2→t < shutR (x,y)):=fun hn=>by
  have:=small_le (g:=(x,y)) (l:=[(x,y)]) hn (by simp)
  grind
 unfold atR
 by_cases hn:nar (x,y)
 ·have h2:=shut_mul hn
  have h3:=h1 hn
  unfold nar at hn
  have h4:0 < x.2 - y.2:=by grind
  have h5:t*(x.2 - y.2) < shutR (x,y)*(x.2 - y.2):=Rat.mul_lt_mul_of_pos_right h3 h4
  simp only at h2
  rw [h2] at h5
  grind
 ·unfold nar at hn
  simp only at hn
  unfold ltD at h
  have h2:x.2≤y.2:=by grind
  have h3:t*x.2≤t*y.2:=Rat.mul_le_mul_of_nonneg_left h2 (Rat.le_of_lt ht)
  rcases h with h | ⟨h,k⟩
  ·grind
  ·have h4:t*x.2 < t*y.2:=Rat.mul_lt_mul_of_pos_left k ht
   grind
structure GapV where
 lo:DelV
 hi:DelV
def GapV.val (g:GapV):Gp:=(g.lo.val,g.hi.val)
def GapV.ok (w:World) (g:GapV):Prop:=g.lo.ok w∧g.hi.ok w
theorem GapV.ok.on {w w':World} {d:GapV} (h:d.ok w) (hb:Below w.heap.size w w'):d.ok w':=⟨h.1.on hb,h.2.on hb⟩
def DelV.tiny (d:DelV):Prop:=d.a.n≤1048576∧d.a.m≤1048576∧d.b.n≤1048576∧d.b.m≤1048576
theorem DelV.tiny.short {d:DelV} (h:d.tiny):d.short:=⟨Nat.le_trans h.1 (by omega),Nat.le_trans h.2.1 (by omega),Nat.le_trans h.2.2.1 (by omega),Nat.le_trans h.2.2.2 (by omega)⟩
def GapV.tiny (g:GapV):Prop:=g.lo.tiny∧g.hi.tiny
theorem low_invG {t:Rat} (h:t≠0):Low (t.den:Int) t.num (t⁻¹).num (t⁻¹).den:=low_of (fun e=>h (Rat.num_eq_zero.1 e)) (Rat.inv_def t)
theorem sz_divG {N M:Nat} {r t:Rat} (h:sz N r) (k:sz M t) (h0:t≠0):sz (N+M) (r / t):=by
 rw [Rat.div_def]
 have hl:=(low_invG h0).le
 exact sz_mulY h ⟨Nat.le_trans (ln_mono hl.1) k.2,Nat.le_trans (ln_mono hl.2) k.1⟩
theorem sz_subG {N M:Nat} {r t:Rat} (h:sz N r) (k:sz M t):sz (2*N+2*M+3) (r - t):=by
 rw [Rat.sub_eq_add_neg]
 exact sz_addY h (sz_negY k)
theorem tiny_sz {w:World} {d:DelV} (h:d.ok w) (k:d.tiny):sz 1048577 d.a.val∧sz 1048577 d.b.val:=⟨szV h.1 (by have:=k.1;omega) (by have:=k.2.1;omega),szV h.2 (by have:=k.2.2.1;omega) (by have:=k.2.2.2;omega)⟩
theorem shut_sz {w:World} {g:GapV} (h:g.ok w) (k:g.tiny) (hn:nar g.val):sz 8388622 (shutR g.val):=by
 obtain ⟨a1,a2⟩:=tiny_sz h.1 k.1
 obtain ⟨b1,b2⟩:=tiny_sz h.2 k.2
 have h0:g.val.1.2 - g.val.2.2≠0:=by unfold nar at hn;grind
 exact (sz_divG (sz_subG b1 a1) (sz_subG a2 b2) h0).mono (by omega)
theorem step_sz {w:World} {g:GapV} {r:Rat} (h:g.ok w) (k:g.tiny) (hr:sz 8388622 r):sz 8388622 (stepG r g.val):=by
 unfold stepG
 split
 ·rename_i hn;exact shut_sz h k hn.1
 ·exact hr
theorem one_sz:sz 8388622 (1:Rat):=⟨by show ln (am 1)≤_;rw [show am 1=1 from rfl,ln_one];omega,by show ln 1≤_;rw [ln_one];omega⟩
theorem dSub_is (s0:Bool) (a0:Option Addr) (n0 c0 X0:Nat) (b0:Option Addr) (m0 d0 Y0:Nat) (s1:Bool) (a1:Option Addr) (n1 c1 X1:Nat) (b1:Option Addr) (m1 d1 Y1:Nat) (s2:Bool) (a2:Option Addr) (n2 c2 X2:Nat) (b2:Option Addr) (m2 d2 Y2:Nat) (s3:Bool) (a3:Option Addr) (n3 c3 X3:Nat) (b3:Option Addr) (m3 d3 Y3:Nat) (Z:Int) (V:Nat) (Z2:Int) (V2:Nat) (w:World) (hc0:n0≤c0) (hm0:n0≤35184372088000) (hS0:Seg w a0 X0 n0) (hd0:m0≤d0) (hk0:m0≤35184372088000) (hT0:Seg w b0 Y0 m0) (hc1:n1≤c1) (hm1:n1≤35184372088000) (hS1:Seg w a1 X1 n1) (hd1:m1≤d1) (hk1:m1≤35184372088000) (hT1:Seg w b1 Y1 m1) (hc2:n2≤c2) (hm2:n2≤35184372088000) (hS2:Seg w a2 X2 n2) (hd2:m2≤d2) (hk2:m2≤35184372088000) (hT2:Seg w b2 Y2 m2) (hc3:n3≤c3) (hm3:n3≤35184372088000) (hS3:Seg w a3 X3 n3) (hd3:m3≤d3) (hk3:m3≤35184372088000) (hT3:Seg w b3 Y3 m3) (hL:Low (rn s0 X0 Y0*(rd Y2:Nat)+-(rn s2 X2 Y2)*(rd Y0:Nat)) ((rd Y0:Nat)*(rd Y2:Nat)) Z V) (hL2:Low (rn s1 X1 Y1*(rd Y3:Nat)+-(rn s3 X3 Y3)*(rd Y1:Nat)) ((rd Y1:Nat)*(rd Y3:Nat)) Z2 V2) :
  Calls Tryz.prog 29 #[Value.agg #[Value.bool s0,Value.slice a0 n0 c0,Value.slice b0 m0 d0,Value.bool s1,Value.slice a1 n1 c1,Value.slice b1 m1 d1],Value.agg #[Value.bool s2,Value.slice a2 n2 c2,Value.slice b2 m2 d2,Value.bool s3,Value.slice a3 n3 c3,Value.slice b3 m3 d3]] w fun e w'=>∃ p q r t,e=.returned (Value.agg #[Value.bool (ng Z),Value.slice p (ln (am Z)) (ln (am Z)),Value.slice q (ln V) (ln V),Value.bool (ng Z2),Value.slice r (ln (am Z2)) (ln (am Z2)),Value.slice t (ln V2) (ln V2)])∧New w w' p (am Z) (ln (am Z))∧New w w' q V (ln V)∧New w w' r (am Z2) (ln (am Z2))∧New w w' t V2 (ln V2):=by
 refine (dSub_ap s0 a0 n0 c0 X0 b0 m0 d0 Y0 s1 a1 n1 c1 X1 b1 m1 d1 Y1 s2 a2 n2 c2 X2 b2 m2 d2 Y2 s3 a3 n3 c3 X3 b3 m3 d3 Y3 Z V Z2 V2 w hc0 hm0 hS0 hd0 hk0 hT0 hc1 hm1 hS1 hd1 hk1 hT1 hc2 hm2 hS2 hd2 hk2 hT2 hc3 hm3 hS3 hd3 hk3 hT3 hL hL2).mono ?_
 rintro e w' ⟨p,q,r,t,h1,n1,n2,n3,n4,_⟩
 exact ⟨p,q,r,t,h1,n1,n2,n3,n4⟩
theorem subDq (x y:DelV) (w:World) (hx:x.ok w) (hy:y.ok w) (hu:x.tiny) (hv:y.tiny):Calls Tryz.prog 29 #[.agg #[.bool x.a.s,.slice x.a.a x.a.n x.a.c,.slice x.a.b x.a.m x.a.e,.bool x.b.s,.slice x.b.a x.b.n x.b.c,.slice x.b.b x.b.m x.b.e],.agg #[.bool y.a.s,.slice y.a.a y.a.n y.a.c,.slice y.a.b y.a.m y.a.e,.bool y.b.s,.slice y.b.a y.b.n y.b.c,.slice y.b.b y.b.m y.b.e]] w (DA w (x.a.val - y.a.val,x.b.val - y.b.val)):=by
 obtain ⟨a1,a2⟩:=tiny_sz hx hu
 obtain ⟨c1,c2⟩:=tiny_sz hy hv
 have s1:=sz_subG a1 c1
 have s2:=sz_subG a2 c2
 obtain ⟨u1,u2,u3,u4⟩:=hu
 obtain ⟨v1,v2,v3,v4⟩:=hv
 refine (dSub_is x.a.s x.a.a x.a.n x.a.c x.a.X x.a.b x.a.m x.a.e x.a.Y x.b.s x.b.a x.b.n x.b.c x.b.X x.b.b x.b.m x.b.e x.b.Y y.a.s y.a.a y.a.n y.a.c y.a.X y.a.b y.a.m y.a.e y.a.Y y.b.s y.b.a y.b.n y.b.c y.b.X y.b.b y.b.m y.b.e y.b.Y _ _ _ _ w hx.1.2.1 (by omega) hx.1.1 hx.1.2.2.2.2.1 (by omega) hx.1.2.2.2.1 hx.2.2.1 (by omega) hx.2.1 hx.2.2.2.2.2.1 (by omega) hx.2.2.2.2.1 hy.1.2.1 (by omega) hy.1.1 hy.1.2.2.2.2.1 (by omega) hy.1.2.2.2.1 hy.2.2.1 (by omega) hy.2.1 hy.2.2.2.2.2.1 (by omega) hy.2.2.2.2.1 (low_subY x.a y.a) (low_subY x.b y.b)).mono ?_
 rintro e w1 ⟨p,q,r,t,rfl,n1,n2,n3,n4⟩
 exact ⟨p,q,r,t,rfl,n1.below,⟨n1.seg,Nat.le_refl _,Nat.le_trans s1.1 (by omega),n2.seg,Nat.le_refl _,Nat.le_trans s1.2 (by omega)⟩,⟨n3.seg,Nat.le_refl _,Nat.le_trans s2.1 (by omega),n4.seg,Nat.le_refl _,Nat.le_trans s2.2 (by omega)⟩⟩
theorem negQ (A:RatV) (S:Rat) (w:World) (hA:A.ok w) (hn:A.n≤100000000∧A.m≤100000000) (hS:-A.val=S) (hz:sz 100000000 S):Calls Tryz.prog 54 #[.agg #[.bool A.s,.slice A.a A.n A.c,.slice A.b A.m A.e]] w (QA w S):=by
 subst hS
 have h1:=hA.2.2.1
 have h2:=hA.2.2.2.2.2
 refine (qNeg_is A.s A.a A.n A.c A.X A.b A.m A.e A.Y _ _ w hA.2.1 (by omega) hA.1 hA.2.2.2.2.1 (by omega) hA.2.2.2.1 (low_neg A)).mono ?_
 rintro e w1 ⟨p,q,rfl,n1,n2⟩
 exact ⟨p,q,rfl,n1.below,ok_nR hz n1 n2⟩
set_option maxHeartbeats 2000000 in
set_option maxRecDepth 100000 in
theorem narrows_is (g:GapV) (w:World) (hg:g.ok w) (hk:g.tiny):Calls Tryz.prog 50 #[.agg #[.bool g.lo.a.s,.slice g.lo.a.a g.lo.a.n g.lo.a.c,.slice g.lo.a.b g.lo.a.m g.lo.a.e,.bool g.lo.b.s,.slice g.lo.b.a g.lo.b.n g.lo.b.c,.slice g.lo.b.b g.lo.b.m g.lo.b.e,.bool g.hi.a.s,.slice g.hi.a.a g.hi.a.n g.hi.a.c,.slice g.hi.a.b g.hi.a.m g.hi.a.e,.bool g.hi.b.s,.slice g.hi.b.a g.hi.b.n g.hi.b.c,.slice g.hi.b.b g.hi.b.m g.hi.b.e]] w fun e w1=>e=.returned (.bool (decide (nar g.val)))∧Below w.heap.size w w1:=by
 have G:=hide' (fun w' (hb:Below w.heap.size w w')=>cmpQ g.lo.b g.hi.b w' (hg.1.2.on hb) (hg.2.2.on hb) ⟨by have:=hk.1.2.2.1;omega,by have:=hk.1.2.2.2;omega,by have:=hk.2.2.2.1;omega,by have:=hk.2.2.2.2;omega⟩ _ rfl)
 have hd:decide (0 < sR (g.lo.b.val - g.hi.b.val))=decide (nar g.val):=by
  apply decide_eq_decide.2
  show _↔g.hi.b.val < g.lo.b.val
  rcases sR_cases (g.lo.b.val - g.hi.b.val) with ⟨h,e⟩ | ⟨h,e⟩ | ⟨h,e⟩ <;> rw [e]
  ·exact ⟨fun k=>absurd k (by omega),fun k=>by grind⟩
  ·exact ⟨fun k=>absurd k (by omega),fun k=>by grind⟩
  ·exact ⟨fun _=>by grind,fun _=>by omega⟩
 obtain ⟨c,hc⟩:∃ c,sR (g.lo.b.val - g.hi.b.val)=c:=⟨_,rfl⟩
 rw [hc] at G hd
 obtain ⟨d,hd2⟩:∃ d,decide (nar g.val)=d:=⟨_,rfl⟩
 rw [hd2] at hd ⊢
 replace hd:=hide' hd
 clear hg hk hc hd2
 go_enter Tryz.func50,Tryz.ntmps50
 go_wp2_with fail
 obtain ⟨wA,hwA⟩:∃ wA,w.alloc (.cells #[.bool g.lo.a.s,.slice g.lo.a.a g.lo.a.n g.lo.a.c,.slice g.lo.a.b g.lo.a.m g.lo.a.e,.bool g.lo.b.s,.slice g.lo.b.a g.lo.b.n g.lo.b.c,.slice g.lo.b.b g.lo.b.m g.lo.b.e,.bool g.hi.a.s,.slice g.hi.a.a g.hi.a.n g.hi.a.c,.slice g.hi.a.b g.hi.a.m g.hi.a.e,.bool g.hi.b.s,.slice g.hi.b.a g.hi.b.n g.hi.b.c,.slice g.hi.b.b g.hi.b.m g.hi.b.e] 48)=wA:=⟨_,rfl⟩
 have hB:Below w.heap.size w wA:=by subst hwA;exact below_alloc _
 rw [hwA]
 clear hwA
 refine (G.out _ hB).mono ?_
 rintro e w1 ⟨rfl,b1⟩
 go_wp2
 go_ret
 exact ⟨by rw [←hd.out];rfl,hB.trans (b1.mono hB.size)⟩
theorem bad_cmp (g:GapV):0 < cmpD g.lo.val g.hi.val↔badG g.val:=cmpD_gt _ _
theorem lt_sR (r t:Rat):sR (r - t) < 0↔r < t:=by
 rcases sR_cases (r - t) with ⟨h,e⟩ | ⟨h,e⟩ | ⟨h,e⟩ <;> rw [e]
 ·exact ⟨fun _=>by grind,fun _=>by omega⟩
 ·exact ⟨fun k=>absurd k (by omega),fun k=>by grind⟩
 ·exact ⟨fun k=>absurd k (by omega),fun k=>by grind⟩
theorem nR_short {r:Rat} {p q:Option Addr} (h:sz 8388622 r):(nR r p q).n≤100000000∧(nR r p q).m≤100000000:=⟨Nat.le_trans h.1 (by omega),Nat.le_trans h.2 (by omega)⟩
set_option maxHeartbeats 2000000 in
set_option maxRecDepth 100000 in
theorem look_bad (g:GapV) (c:Nat) (w:World) (hg:g.ok w) (hk:g.tiny) (hb:badG g.val):Calls Tryz.prog 48 #[.agg #[.bool g.lo.a.s,.slice g.lo.a.a g.lo.a.n g.lo.a.c,.slice g.lo.a.b g.lo.a.m g.lo.a.e,.bool g.lo.b.s,.slice g.lo.b.a g.lo.b.n g.lo.b.c,.slice g.lo.b.b g.lo.b.m g.lo.b.e,.bool g.hi.a.s,.slice g.hi.a.a g.hi.a.n g.hi.a.c,.slice g.hi.a.b g.hi.a.m g.hi.a.e,.bool g.hi.b.s,.slice g.hi.b.a g.hi.b.n g.hi.b.c,.slice g.hi.b.b g.hi.b.m g.hi.b.e],.pointer (some ⟨c,0,none⟩)] w fun e w1=>e=.returned (.int .i64 51)∧Below w.heap.size w w1:=by
 have G1:=hide' (fun w' (hb:Below w.heap.size w w')=>cmpDq g.lo g.hi w' (hg.1.on hb) (hg.2.on hb) hk.1.short hk.2.short)
 have hbc:=bad_cmp g
 obtain ⟨C,hC⟩:∃ C,cmpD g.lo.val g.hi.val=C:=⟨_,rfl⟩
 rw [hC] at G1 hbc
 have hc1:0 < C:=by exact hbc.2 hb
 clear hbc hC
 clear hg hk hb
 go_enter Tryz.func48,Tryz.ntmps48
 go_wp2_with fail
 obtain ⟨wA,hwA⟩:∃ wA,w.alloc (.cells #[.bool g.lo.a.s,.slice g.lo.a.a g.lo.a.n g.lo.a.c,.slice g.lo.a.b g.lo.a.m g.lo.a.e,.bool g.lo.b.s,.slice g.lo.b.a g.lo.b.n g.lo.b.c,.slice g.lo.b.b g.lo.b.m g.lo.b.e,.bool g.hi.a.s,.slice g.hi.a.a g.hi.a.n g.hi.a.c,.slice g.hi.a.b g.hi.a.m g.hi.a.e,.bool g.hi.b.s,.slice g.hi.b.a g.hi.b.n g.hi.b.c,.slice g.hi.b.b g.hi.b.m g.hi.b.e] 48)=wA:=⟨_,rfl⟩
 have hB:Below w.heap.size w wA:=by subst hwA;exact below_alloc _
 have d0:wA.cell? ⟨w.heap.size,0,none⟩=some (.bool g.lo.a.s):=by subst hwA;go_simp
 have d1:wA.cell? ⟨w.heap.size,1,none⟩=some (.slice g.lo.a.a g.lo.a.n g.lo.a.c):=by subst hwA;go_simp
 have d2:wA.cell? ⟨w.heap.size,2,none⟩=some (.slice g.lo.a.b g.lo.a.m g.lo.a.e):=by subst hwA;go_simp
 have d3:wA.cell? ⟨w.heap.size,3,none⟩=some (.bool g.lo.b.s):=by subst hwA;go_simp
 have d4:wA.cell? ⟨w.heap.size,4,none⟩=some (.slice g.lo.b.a g.lo.b.n g.lo.b.c):=by subst hwA;go_simp
 have d5:wA.cell? ⟨w.heap.size,5,none⟩=some (.slice g.lo.b.b g.lo.b.m g.lo.b.e):=by subst hwA;go_simp
 have d6:wA.cell? ⟨w.heap.size,6,none⟩=some (.bool g.hi.a.s):=by subst hwA;go_simp
 have d7:wA.cell? ⟨w.heap.size,7,none⟩=some (.slice g.hi.a.a g.hi.a.n g.hi.a.c):=by subst hwA;go_simp
 have d8:wA.cell? ⟨w.heap.size,8,none⟩=some (.slice g.hi.a.b g.hi.a.m g.hi.a.e):=by subst hwA;go_simp
 have d9:wA.cell? ⟨w.heap.size,9,none⟩=some (.bool g.hi.b.s):=by subst hwA;go_simp
 have d10:wA.cell? ⟨w.heap.size,10,none⟩=some (.slice g.hi.b.a g.hi.b.n g.hi.b.c):=by subst hwA;go_simp
 have d11:wA.cell? ⟨w.heap.size,11,none⟩=some (.slice g.hi.b.b g.hi.b.m g.hi.b.e):=by subst hwA;go_simp
 rw [hwA]
 clear hwA
 refine (G1.out _ hB).mono ?_
 rintro e w1 ⟨rfl,b1⟩
 go_wp2
 go_ret
 exact ⟨rfl,hB.trans (b1.mono hB.size)⟩
def GapV.lies (g:GapV) (w:World) (b off:Nat):Prop :=
 w.cell? ⟨b,off+0,none⟩=some (.bool g.lo.a.s)∧w.cell? ⟨b,off+1,none⟩=some (.slice g.lo.a.a g.lo.a.n g.lo.a.c)∧w.cell? ⟨b,off+2,none⟩=some (.slice g.lo.a.b g.lo.a.m g.lo.a.e)∧w.cell? ⟨b,off+3,none⟩=some (.bool g.lo.b.s)∧w.cell? ⟨b,off+4,none⟩=some (.slice g.lo.b.a g.lo.b.n g.lo.b.c)∧w.cell? ⟨b,off+5,none⟩=some (.slice g.lo.b.b g.lo.b.m g.lo.b.e)∧w.cell? ⟨b,off+6,none⟩=some (.bool g.hi.a.s)∧w.cell? ⟨b,off+7,none⟩=some (.slice g.hi.a.a g.hi.a.n g.hi.a.c)∧w.cell? ⟨b,off+8,none⟩=some (.slice g.hi.a.b g.hi.a.m g.hi.a.e)∧w.cell? ⟨b,off+9,none⟩=some (.bool g.hi.b.s)∧w.cell? ⟨b,off+10,none⟩=some (.slice g.hi.b.a g.hi.b.n g.hi.b.c)∧w.cell? ⟨b,off+11,none⟩=some (.slice g.hi.b.b g.hi.b.m g.hi.b.e)
theorem GapV.lies.later {g:GapV} {w w':World} {b off:Nat} (h:g.lies w b off) (hb:Below w.heap.size w w'):g.lies w' b off:=by
 obtain ⟨h0,h1,h2,h3,h4,h5,h6,h7,h8,h9,h10,h11⟩:=h
 exact ⟨below_cell hb h0,below_cell hb h1,below_cell hb h2,below_cell hb h3,below_cell hb h4,below_cell hb h5,below_cell hb h6,below_cell hb h7,below_cell hb h8,below_cell hb h9,below_cell hb h10,below_cell hb h11⟩
theorem cell_low {B:Nat} {w w':World} {c o:Nat} (h:Below B w w') (hc:c < B):w'.cell? ⟨c,o,none⟩=w.cell? ⟨c,o,none⟩:=by
 unfold World.cell?
 rw [h.block c hc]
def GapsAt (w:World) (a:Option Addr) (n:Nat) (k:Nat→GapV):Prop:=0 < n→∃ b off,a=some ⟨b,off,none⟩∧b < w.heap.size∧∀ i,i < n→(k i).lies w b (off+i*12)
theorem GapsAt.later {w w':World} {a:Option Addr} {n:Nat} {k:Nat→GapV} (h:GapsAt w a n k) (hb:Below w.heap.size w w'):GapsAt w' a n k:=fun hn=>by
 obtain ⟨b,off,e,hl,hc⟩:=h hn
 exact ⟨b,off,e,Nat.lt_of_lt_of_le hl hb.size,fun i hi=>(hc i hi).later hb⟩
def gl (k:Nat→GapV) (n:Nat):List Gp:=(List.range n).map fun i=>(k i).val
theorem gl_succ (k:Nat→GapV) (n:Nat):gl k (n+1)=gl k n ++ [(k n).val]:=by
 unfold gl
 rw [List.range_succ,List.map_append]
 rfl
theorem small_sz {w:World} {k:Nat→GapV}:∀ (n:Nat),(∀ i,i < n→(k i).ok w∧(k i).tiny)→sz 8388622 (smallG (gl k n))
 | 0,_=>one_sz
 | n+1,h=>by
  rw [gl_succ,smallG_snoc]
  exact step_sz (h n (by omega)).1 (h n (by omega)).2 (small_sz n fun i hi=>h i (by omega))
end Go.Proofs.YtfppjaoddicgpaaGreatDoor
