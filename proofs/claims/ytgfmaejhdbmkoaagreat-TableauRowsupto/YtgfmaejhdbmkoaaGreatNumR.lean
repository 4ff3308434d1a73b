import Derived.Test.YtgfmaejhdbmkoaaGreatNumV
set_option linter.unusedSimpArgs false
namespace Go.Proofs.YtgfmaejhdbmkoaaGreat
set_option linter.unusedVariables false
def RatV.val (q:RatV):Rat:=Rat.divInt (rn q.s q.X q.Y) ((rd q.Y:Nat):Int)
theorem low_of {A D:Int} {r:Rat} (hD:D≠0) (h:r=Rat.divInt A D):Low A D r.num r.den:=by
 refine ⟨hD,r.den_pos,?_,r.reduced⟩
 have hd:(r.den:Int)≠0:=by have:=r.den_pos;omega
 have e:Rat.divInt r.num r.den=Rat.divInt A D:=by rw [Rat.num_divInt_den];exact h
 exact (Rat.divInt_eq_divInt_iff hd hD).1 e
theorem RatV.val_low (q:RatV):Low (rn q.s q.X q.Y) ((rd q.Y:Nat):Int) q.val.num q.val.den:=low_of (rd_ne _) rfl
theorem low_mul (p q:RatV):Low (rn p.s p.X p.Y*rn q.s q.X q.Y) ((rd p.Y:Nat)*(rd q.Y:Nat)) (p.val*q.val).num (p.val*q.val).den :=
 low_of (Int.mul_ne_zero (rd_ne _) (rd_ne _)) (by unfold RatV.val;rw [Rat.divInt_mul_divInt])
theorem low_add (p q:RatV):Low (rn p.s p.X p.Y*(rd q.Y:Nat)+rn q.s q.X q.Y*(rd p.Y:Nat)) ((rd p.Y:Nat)*(rd q.Y:Nat)) (p.val+q.val).num (p.val+q.val).den :=
 low_of (Int.mul_ne_zero (rd_ne _) (rd_ne _)) (by unfold RatV.val;rw [Rat.divInt_add_divInt _ _ (rd_ne _) (rd_ne _)])
theorem val_of (r:Rat) (a b:Option Addr):(⟨ng r.num,a,ln (am r.num),ln (am r.num),am r.num,b,ln r.den,ln r.den,r.den⟩:RatV).val=r:=by
 unfold RatV.val
 show Rat.divInt (rn (ng r.num) (am r.num) r.den) ((rd r.den:Nat):Int)=r
 rw [rn_nf r.den_pos,rd_nf r.den_pos,Rat.num_divInt_den]
abbrev Fo:=List (Int × Rat)
def co (x:Int):Fo→Rat
 | []=>0
 | p :: l=>(if p.1=x then p.2 else 0)+co x l
theorem co_append (x:Int):∀ (l m:Fo),co x (l ++ m)=co x l+co x m
 | [],m=>by simp [co,Rat.zero_add]
 | p :: l,m=>by simp only [List.cons_append,co,co_append x l m];grind
def nrm (l:Fo):Prop:=l.Pairwise (fun a b=>a.1 < b.1)∧∀ p∈l,p.2≠0
theorem co_zero {x:Int}:∀ {l:Fo},(∀ p∈l,p.1≠x)→co x l=0
 | [],_=>rfl
 | p :: l,h=>by
  simp only [co]
  rw [if_neg (h p List.mem_cons_self),co_zero fun q hq=>h q (List.mem_cons_of_mem _ hq)]
  exact Rat.add_zero _
theorem nrm.tail {p:Int × Rat} {l:Fo} (h:nrm (p :: l)):nrm l:=⟨(List.pairwise_cons.1 h.1).2,fun q hq=>h.2 q (List.mem_cons_of_mem _ hq)⟩
theorem nrm.head {p:Int × Rat} {l:Fo} (h:nrm (p :: l)):∀ q∈l,p.1 < q.1:=(List.pairwise_cons.1 h.1).1
theorem nrm.nil:nrm []:=⟨List.Pairwise.nil,fun p hp=>absurd hp (by simp)⟩
theorem nrm.co_head {p:Int × Rat} {l:Fo} (h:nrm (p :: l)):co p.1 (p :: l)=p.2:=by
 simp only [co,if_true]
 rw [co_zero fun q hq=>by have:=h.head q hq;omega]
 exact Rat.add_zero _
theorem nrm.below {p:Int × Rat} {l:Fo} {x:Int} (h:nrm (p :: l)) (hx:x < p.1):co x (p :: l)=0 :=
 co_zero fun q hq=>by
  rcases List.mem_cons.1 hq with rfl | hq
  ·omega
  ·have:=h.head q hq;omega
theorem nrm.uniq:∀ {l m:Fo},nrm l→nrm m→(∀ x,co x l=co x m)→l=m
 | [],[],_,_,_=>rfl
 | [],q :: m,_,hm,h=>by
  have:=h q.1
  rw [hm.co_head] at this
  exact absurd this.symm (hm.2 q List.mem_cons_self)
 | p :: l,[],hl,_,h=>by
  have:=h p.1
  rw [hl.co_head] at this
  exact absurd this (hl.2 p List.mem_cons_self)
 | p :: l,q :: m,hl,hm,h=>by
  have e1:p.1=q.1:=by
   rcases Int.lt_trichotomy p.1 q.1 with h1 | h1 | h1
   ·have:=h p.1
    rw [hl.co_head,hm.below h1] at this
    exact absurd this (hl.2 p List.mem_cons_self)
   ·exact h1
   ·have:=h q.1
    rw [hm.co_head,hl.below h1] at this
    exact absurd this.symm (hm.2 q List.mem_cons_self)
  have e2:p.2=q.2:=by
   have:=h p.1
   rw [hl.co_head,e1,hm.co_head] at this
   exact this
  have e:p=q:=Prod.ext e1 e2
  subst e
  rw [nrm.uniq hl.tail hm.tail fun x=>by
   have:=h x
   simp only [co] at this
   grind]
def mrg:Fo→Fo→Fo
 | [],m=>m
 | p :: l,[]=>p :: l
 | p :: l,q :: m=>if p.1 < q.1 then p :: mrg l (q :: m) else if q.1 < p.1 then q :: mrg (p :: l) m else if p.2+q.2=0 then mrg l m else (p.1,p.2+q.2) :: mrg l m
termination_by l m=>l.length+m.length
theorem co_mrg (x:Int):∀ (l m:Fo),co x (mrg l m)=co x l+co x m
 | [],m=>by rw [mrg];simp only [co];rw [Rat.zero_add]
 | p :: l,[]=>by rw [mrg];simp only [co];grind
 | p :: l,q :: m=>by
  rw [mrg]
  split
  ·rw [co,co_mrg x l (q :: m)]
   simp only [co];grind
  ·split
   ·rw [co,co_mrg x (p :: l) m]
    simp only [co];grind
   ·have e:p.1=q.1:=by omega
    split
    ·rw [co_mrg x l m]
     simp only [co,e];grind
    ·rw [co,co_mrg x l m]
     simp only [co,e];grind
termination_by l m=>l.length+m.length
theorem mrg_low {z:Int}:∀ (l m:Fo),(∀ p∈l,z < p.1)→(∀ p∈m,z < p.1)→∀ p∈mrg l m,z < p.1
 | [],m,_,hm=>by rw [mrg];exact hm
 | p :: l,[],hl,_=>by rw [mrg];exact hl
 | p :: l,q :: m,hl,hm=>by
  have hl':∀ r∈l,z < r.1:=fun r hr=>hl r (List.mem_cons_of_mem _ hr)
  have hm':∀ r∈m,z < r.1:=fun r hr=>hm r (List.mem_cons_of_mem _ hr)
  rw [mrg]
  split
  ·intro r hr
   rcases List.mem_cons.1 hr with rfl | hr
   ·exact hl _ List.mem_cons_self
   ·exact mrg_low l (q :: m) hl' hm r hr
  ·split
   ·intro r hr
    rcases List.mem_cons.1 hr with rfl | hr
    ·exact hm _ List.mem_cons_self
    ·exact mrg_low (p :: l) m hl hm' r hr
   ·split
    ·exact mrg_low l m hl' hm'
    ·intro r hr
     rcases List.mem_cons.1 hr with rfl | hr
     ·exact hl p List.mem_cons_self
     ·exact mrg_low l m hl' hm' r hr
termination_by l m=>l.length+m.length
theorem nrm.cons {p:Int × Rat} {l:Fo} (h:nrm l) (h1:∀ q∈l,p.1 < q.1) (h2:p.2≠0):nrm (p :: l) :=
 ⟨List.pairwise_cons.2 ⟨h1,h.1⟩,fun q hq=>by
  rcases List.mem_cons.1 hq with rfl | hq
  ·exact h2
  ·exact h.2 q hq⟩
theorem nrm_mrg:∀ (l m:Fo),nrm l→nrm m→nrm (mrg l m)
 | [],m,_,hm=>by rw [mrg];exact hm
 | p :: l,[],hl,_=>by rw [mrg];exact hl
 | p :: l,q :: m,hl,hm=>by
  rw [mrg]
  split
  ·rename_i h
   refine (nrm_mrg l (q :: m) hl.tail hm).cons (mrg_low _ _ hl.head fun r hr=>?_) (hl.2 p List.mem_cons_self)
   rcases List.mem_cons.1 hr with rfl | hr
   ·exact h
   ·have:=hm.head r hr;omega
  ·split
   ·rename_i h1 h
    refine (nrm_mrg (p :: l) m hl hm.tail).cons (mrg_low _ _ (fun r hr=>?_) hm.head) (hm.2 q List.mem_cons_self)
    rcases List.mem_cons.1 hr with rfl | hr
    ·exact h
    ·have:=hl.head r hr;omega
   ·rename_i h1 h2
    have e:p.1=q.1:=by omega
    split
    ·exact nrm_mrg l m hl.tail hm.tail
    ·rename_i h3
     exact (nrm_mrg l m hl.tail hm.tail).cons (mrg_low _ _ hl.head (fun r hr=>by show p.1 < r.1;rw [e];exact hm.head r hr)) h3
termination_by l m=>l.length+m.length
def wt (r:Rat):Nat:=ln (am r.num)+ln r.den+1
def wts:Fo→Nat
 | []=>0
 | p :: l=>wt p.2+wts l
theorem wts_append:∀ (l m:Fo),wts (l ++ m)=wts l+wts m
 | [],m=>by simp [wts]
 | p :: l,m=>by simp only [List.cons_append,wts,wts_append l m];omega
theorem co_le (x:Int):∀ (l:Fo),∃ (A:Int) (D:Nat),0 < D∧co x l=Rat.divInt A (D:Nat)∧am A≤BB ^ wts l∧D≤BB ^ wts l
 | []=>⟨0,1,Nat.one_pos,by rw [Rat.zero_divInt];rfl,Nat.zero_le _,Nat.le_refl _⟩
 | p :: l=>by
  obtain ⟨A,D,hD,e,h1,h2⟩:=co_le x l
  have hB:∀ {i j:Nat},i≤j→BB ^ i≤BB ^ j:=fun h=>xX4 h
  simp only [co,wts]
  split
  ·obtain ⟨r,hr⟩:∃ r,p.2=r:=⟨_,rfl⟩
   rw [hr]
   have hd:=r.den_pos
   refine ⟨r.num*(D:Nat)+A*(r.den:Nat),r.den*D,Nat.mul_pos hd hD,?_,?_⟩
   ·rw [e]
    have:=Rat.divInt_add_divInt r.num A (d₁:=(r.den:Int)) (d₂:=((D:Nat):Int)) (by omega) (by omega)
    rw [Rat.num_divInt_den] at this
    rw [this,Int.natCast_mul]
   ·have k1:am r.num≤BB ^ ln (am r.num):=Nat.le_of_lt (xJ3 _)
    have k2:r.den≤BB ^ ln r.den:=Nat.le_of_lt (xJ3 _)
    have p1:r.den*D≤BB ^ (ln r.den+wts l):=by rw [Nat.pow_add];exact Nat.mul_le_mul k2 h2
    have p2:am (r.num*(D:Nat))≤BB ^ (ln (am r.num)+wts l):=by rw [am_mul,Nat.pow_add];exact Nat.mul_le_mul k1 h2
    have p3:am (A*(r.den:Nat))≤BB ^ (wts l+ln r.den):=by rw [am_mul,Nat.pow_add];exact Nat.mul_le_mul h1 k2
    have q1:BB ^ (ln r.den+wts l)≤BB ^ (ln (am r.num)+ln r.den+wts l):=hB (by omega)
    have q2:BB ^ (ln (am r.num)+wts l)≤BB ^ (ln (am r.num)+ln r.den+wts l):=hB (by omega)
    have q3:BB ^ (wts l+ln r.den)≤BB ^ (ln (am r.num)+ln r.den+wts l):=hB (by omega)
    have p6:BB ^ (wt r+wts l)=BB ^ (ln (am r.num)+ln r.den+wts l)*BB:=by rw [←Nat.pow_succ];congr 1;unfold wt;omega
    have p7:am (r.num*(D:Nat)+A*(r.den:Nat))≤am (r.num*(D:Nat))+am (A*(r.den:Nat)):=Int.natAbs_add_le _ _
    rw [p6]
    generalize BB ^ (ln (am r.num)+ln r.den+wts l)=T at *
    have p8:T*2≤T*BB:=Nat.mul_le_mul_left _ (by rw [BB_eq];omega)
    constructor <;> omega
  ·refine ⟨A,D,hD,by rw [e,Rat.zero_add],Nat.le_trans h1 (hB (by omega)),Nat.le_trans h2 (hB (by omega))⟩
def sz (N:Nat) (r:Rat):Prop:=ln (am r.num)≤N∧ln r.den≤N
theorem co_sz (x:Int) (l:Fo):sz (wts l+1) (co x l):=by
 obtain ⟨A,D,hD,e,h1,h2⟩:=co_le x l
 have hl:BB ^ wts l < BB ^ (wts l+1):=by
  rw [Nat.pow_succ]
  have:0 < BB ^ wts l:=by rw [BB_eq];exact Nat.pow_pos (by omega)
  have h3:BB ^ wts l*2≤BB ^ wts l*BB:=Nat.mul_le_mul_left _ (by rw [BB_eq];omega)
  omega
 exact ln1 (low_of (by omega) e) (Nat.lt_of_le_of_lt h1 hl) (by show am ((D:Nat):Int) < _;exact Nat.lt_of_le_of_lt h2 hl) (Nat.le_refl _) (Nat.le_refl _)
theorem sz.mono {N M:Nat} {r:Rat} (h:sz N r) (hM:N≤M):sz M r:=⟨Nat.le_trans h.1 hM,Nat.le_trans h.2 hM⟩
theorem nrm.co_mem:∀ {l:Fo} {p:Int × Rat},nrm l→p∈l→co p.1 l=p.2
 | [],p,_,hp=>absurd hp (by simp)
 | q :: l,p,h,hp=>by
  rcases List.mem_cons.1 hp with rfl | hp
  ·exact h.co_head
  ·have h1:=h.head p hp
   simp only [co]
   rw [if_neg (by omega),Rat.zero_add]
   exact h.tail.co_mem hp
end Go.Proofs.YtgfmaejhdbmkoaaGreat
