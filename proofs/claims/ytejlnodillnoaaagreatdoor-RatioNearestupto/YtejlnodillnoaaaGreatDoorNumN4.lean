import Derived.Test.YtejlnodillnoaaaGreatDoorNumX
import Derived.Test.YtejlnodillnoaaaGreatDoorNumZ
import Derived.Test.YtejlnodillnoaaaGreatDoorNumN2
set_option linter.unusedSimpArgs false
namespace Go.Proofs.YtejlnodillnoaaaGreatDoor
set_option linter.unusedVariables false
theorem cpq_cf:∀ (d:Nat) (n:Int),d≠0→(cpq (cf n d)).1*(d:Int)=n*(cpq (cf n d)).2∧0 < (cpq (cf n d)).2:=by
 intro d
 induction d using Nat.strongRecOn with
 | _ d ih =>
  intro n hd
  have hdm:=Int.mul_ediv_add_emod n (d:Int)
  by_cases h0:n % (d:Int)=0
  ·rw [cf_end hd h0]
   rw [h0] at hdm
   refine ⟨?_,by simp [cpq]⟩
   show (n / (d:Int)*1+0)*(d:Int)=n*1
   grind
  ·rw [cf_on hd h0]
   obtain ⟨m1,m2⟩:=mod_nat (n:=n) hd
   obtain ⟨h1,h2⟩:=ih _ m2 (d:Int) (by omega)
   rw [m1] at h1
   show (n / (d:Int)*(cpq (cf (d:Int) (n % (d:Int)).toNat)).1+(cpq (cf (d:Int) (n % (d:Int)).toNat)).2)*(d:Int)=n*(cpq (cf (d:Int) (n % (d:Int)).toNat)).1∧0 < (cpq (cf (d:Int) (n % (d:Int)).toNat)).1
   generalize cpq (cf (d:Int) (n % (d:Int)).toNat)=c at h1 h2 ⊢
   obtain ⟨P,Q⟩:=c
   have hr:0 < n % (d:Int):=by have:=Int.emod_nonneg n (show (d:Int)≠0 by omega);omega
   show (n / (d:Int)*P+Q)*(d:Int)=n*P∧0 < P
   have h1':P*(n % (d:Int))=(d:Int)*Q:=h1
   have h2':0 < Q:=h2
   constructor
   ·have e:n=d*(n / (d:Int))+n % (d:Int):=hdm.symm
    generalize n / (d:Int)=x at e ⊢
    generalize n % (d:Int)=y at e h1' hr
    subst e
    grind
   ·have h3:0 < (d:Int)*Q:=Int.mul_pos (by omega) h2'
    rw [←h1'] at h3
    rcases Int.lt_trichotomy P 0 with h | h | h
    ·have:=Int.mul_neg_of_neg_of_pos h hr
     omega
    ·rw [h,Int.zero_mul] at h3
     omega
    ·exact h
theorem cf_pos:∀ (d:Nat) (n:Int),d≠0→(d:Int)≤n→∀ x∈cf n d,0 < x:=by
 intro d
 induction d using Nat.strongRecOn with
 | _ d ih =>
  intro n hd hn x hx
  have hq:0 < n / (d:Int):=by have:=(Int.le_ediv_iff_mul_le (a:=1) (b:=n) (show (0:Int) < d by omega)).2 (by omega);omega
  by_cases h0:n % (d:Int)=0
  ·rw [cf_end hd h0] at hx
   obtain rfl:=List.mem_singleton.1 hx
   exact hq
  ·rw [cf_on hd h0] at hx
   obtain ⟨m1,m2⟩:=mod_nat (n:=n) hd
   rcases List.mem_cons.1 hx with h | h
   ·rw [h];exact hq
   ·exact ih _ m2 (d:Int) (by omega) (by omega) x h
theorem cf_tail_pos (d:Nat) (n:Int) (hd:d≠0):∀ i,1≤i→i < (cf n d).length→0 < (cf n d).getD i 0:=by
 intro i h1 h2
 by_cases h0:n % (d:Int)=0
 ·rw [cf_end hd h0] at h2
  simp at h2
  omega
 ·rw [cf_on hd h0] at h2 ⊢
  obtain ⟨m1,m2⟩:=mod_nat (n:=n) hd
  obtain ⟨j,rfl⟩:∃ j,i=j+1:=⟨i - 1,by omega⟩
  simp only [List.length_cons] at h2
  have h3:j < (cf (d:Int) (n % (d:Int)).toNat).length:=by omega
  rw [show (n / (d:Int) :: cf (d:Int) (n % (d:Int)).toNat).getD (j+1) 0=(cf (d:Int) (n % (d:Int)).toNat)[j] by simp [List.getD,h3]]
  exact cf_pos _ _ (by omega) (by omega) _ (List.getElem_mem h3)
def dsR (r x:Rat):Rat:=if x < r then r - x else x - r
def ahd (r x y:Rat):Prop:=dsR r x < dsR r y∨dsR r x=dsR r y∧(x.den < y.den∨x.den=y.den∧x < y)
theorem ahd.trans {r x y z:Rat} (h:ahd r x y) (k:ahd r y z):ahd r x z:=by
 unfold ahd at *
 rcases h with h | ⟨h,h1⟩ <;> rcases k with k | ⟨k,k1⟩
 ·left;grind
 ·left;grind
 ·left;grind
 ·right
  refine ⟨h.trans k,?_⟩
  rcases h1 with h1 | ⟨h1,h2⟩ <;> rcases k1 with k1 | ⟨k1,k2⟩
  ·left;omega
  ·left;omega
  ·left;omega
  ·right;exact ⟨h1.trans k1,by grind⟩
theorem ahd.irrefl {r x:Rat} (h:ahd r x x):False:=by
 unfold ahd at h
 rcases h with h | ⟨_,h | ⟨_,h⟩⟩
 ·grind
 ·omega
 ·grind
theorem rat_tri (x y:Rat):x < y∨x=y∨y < x:=by grind
theorem rat_loge (x y:Rat):x < y∨y≤x:=by grind
theorem ahd_total {r x y:Rat} (h:x≠y):ahd r x y∨ahd r y x:=by
 unfold ahd
 rcases rat_tri (dsR r x) (dsR r y) with h1 | h1 | h1
 ·exact Or.inl (Or.inl h1)
 ·rcases Nat.lt_trichotomy x.den y.den with h2 | h2 | h2
  ·exact Or.inl (Or.inr ⟨h1,Or.inl h2⟩)
  ·rcases rat_tri x y with h3 | h3 | h3
   ·exact Or.inl (Or.inr ⟨h1,Or.inr ⟨h2,h3⟩⟩)
   ·exact absurd h3 h
   ·exact Or.inr (Or.inr ⟨h1.symm,Or.inr ⟨h2.symm,h3⟩⟩)
  ·exact Or.inr (Or.inr ⟨h1.symm,Or.inl h2⟩)
 ·exact Or.inr (Or.inl h1)
structure Nrs (r:Rat) (M:Nat) (b:Rat):Prop where
 le:b.den≤M
 near:∀ x:Rat,x.den≤M→¬ ahd r x b
theorem Nrs.uniq {r b c:Rat} {M:Nat} (h:Nrs r M b) (k:Nrs r M c):b=c:=by
 rcases Classical.em (b=c) with e | e
 ·exact e
 ·rcases ahd_total (r:=r) e with h1 | h1
  ·exact absurd h1 (k.near b h.le)
  ·exact absurd h1 (h.near c k.le)
theorem nrs_self {r:Rat} {M:Nat} (h:r.den≤M):Nrs r M r:=by
 refine ⟨h,fun x hx=>?_⟩
 have e:dsR r r=0:=by unfold dsR;split <;> grind
 unfold ahd
 rw [e]
 rintro (h1 | ⟨h1,h2⟩)
 ·unfold dsR at h1;split at h1 <;> grind
 ·have e2:x=r:=by unfold dsR at h1;split at h1 <;> grind
  subst e2
  rcases h2 with h2 | ⟨_,h2⟩
  ·omega
  ·grind
theorem gap_den {p q P Q X Y:Int} (hq:0 < q) (hQ:0 < Q) (hd:P*q - p*Q=1) (h1:p*Y < X*q) (h2:X*Q < P*Y):q+Q≤Y:=by
 have e:Y=q*(P*Y - X*Q)+Q*(X*q - p*Y):=by
  have:Y=Y*(P*q - p*Q):=by rw [hd,Int.mul_one]
  grind
 have h3:q*1≤q*(P*Y - X*Q):=Int.mul_le_mul_of_nonneg_left (by omega) (by omega)
 have h4:Q*1≤Q*(X*q - p*Y):=Int.mul_le_mul_of_nonneg_left (by omega) (by omega)
 omega
theorem lt_cross {x y:Rat}:x < y↔x.num*(y.den:Int) < y.num*(x.den:Int):=Rat.lt_iff x y
theorem nrs_two {r a b:Rat} {M:Nat} (ha:a.den≤M) (hb:b.den≤M) (hM:M < a.den+b.den) (h1:a≤r) (h2:r≤b) (hd:b.num*(a.den:Int) - a.num*(b.den:Int)=1) :
  (ahd r a b→Nrs r M a)∧(¬ ahd r a b→Nrs r M b):=by
 have hab:a < b:=by rw [lt_cross];omega
 have key:∀ x:Rat,x.den≤M→x≤a∨b≤x:=fun x hx=>by
  rcases rat_loge a x with h3 | h3
  ·rcases rat_loge x b with h4 | h4
   ·exfalso
    rw [lt_cross] at h3 h4
    have:=gap_den (p:=a.num) (q:=a.den) (P:=b.num) (Q:=b.den) (X:=x.num) (Y:=x.den) (by have:=a.den_pos;omega) (by have:=b.den_pos;omega) hd h3 h4
    omega
   ·exact Or.inr h4
  ·exact Or.inl h3
 have hxa:∀ x:Rat,x≤a→ahd r x a→False:=fun x hx h=>by
  have e1:dsR r a=r - a:=by unfold dsR;split <;> grind
  have e2:dsR r x=r - x:=by unfold dsR;split <;> grind
  unfold ahd at h
  rw [e1,e2] at h
  rcases h with h | ⟨h,h3⟩
  ·grind
  ·obtain rfl:x=a:=by grind
   rcases h3 with h3 | ⟨_,h3⟩
   ·omega
   ·grind
 have hxb:∀ x:Rat,b≤x→ahd r x b→False:=fun x hx h=>by
  have e1:dsR r b=b - r:=by unfold dsR;split <;> grind
  have e2:dsR r x=x - r:=by unfold dsR;split <;> grind
  unfold ahd at h
  rw [e1,e2] at h
  rcases h with h | ⟨h,h3⟩
  ·grind
  ·obtain rfl:x=b:=by grind
   rcases h3 with h3 | ⟨_,h3⟩
   ·omega
   ·grind
 have hne:a≠b:=fun e=>by rw [e] at hab;grind
 refine ⟨fun h=>⟨ha,fun x hx hh=>?_⟩,fun h=>⟨hb,fun x hx hh=>?_⟩⟩
 ·rcases key x hx with k | k
  ·exact hxa x k hh
  ·exact hxb x k (hh.trans h)
 ·have h':ahd r b a:=(ahd_total hne).resolve_left h
  rcases key x hx with k | k
  ·exact hxa x k (hh.trans h')
  ·exact hxb x k hh
theorem nrs_pair {r a b:Rat} {M:Nat} (ha:a.den≤M) (hb:b.den≤M) (hM:M < a.den+b.den) (h:(a≤r∧r≤b∧b.num*(a.den:Int) - a.num*(b.den:Int)=1)∨(b≤r∧r≤a∧a.num*(b.den:Int) - b.num*(a.den:Int)=1)) :
  (ahd r a b→Nrs r M a)∧(¬ ahd r a b→Nrs r M b):=by
 rcases h with ⟨h1,h2,h3⟩ | ⟨h1,h2,h3⟩
 ·exact nrs_two ha hb hM h1 h2 h3
 ·have k:=nrs_two hb ha (by omega) h1 h2 h3
  have hne:a≠b:=fun e=>by
   rw [e,Int.sub_self] at h3
   omega
  refine ⟨fun h=>?_,fun h=>?_⟩
  ·exact k.2 fun h4=>(h.trans h4).irrefl
  ·exact k.1 ((ahd_total hne).resolve_left h)
theorem cvg_det:∀ (l:List Int) (c:(Int × Int) × (Int × Int)),(c.1.1*c.2.2 - c.2.1*c.1.2=1∨c.1.1*c.2.2 - c.2.1*c.1.2 = -1)→((cvg l c).1.1*(cvg l c).2.2 - (cvg l c).2.1*(cvg l c).1.2=1∨(cvg l c).1.1*(cvg l c).2.2 - (cvg l c).2.1*(cvg l c).1.2 = -1)
 | [],c,h=>h
 | x :: l,c,h=>by
  have e:cvg (x :: l) c=cvg l (cst2 c x):=rfl
  rw [e]
  refine cvg_det l _ ?_
  show c.2.1*(c.2.2*x+c.1.2) - (c.2.1*x+c.1.1)*c.2.2=1∨c.2.1*(c.2.2*x+c.1.2) - (c.2.1*x+c.1.1)*c.2.2 = -1
  have e2:c.2.1*(c.2.2*x+c.1.2) - (c.2.1*x+c.1.1)*c.2.2 = -(c.1.1*c.2.2 - c.2.1*c.1.2):=by grind
  rw [e2]
  omega
theorem cf_tail {n:Int} {d:Nat} (hd:d≠0):∃ x l,cf n d=x :: l∧∀ y∈l,0 < y:=by
 by_cases h0:n % (d:Int)=0
 ·exact ⟨_,[],cf_end hd h0,by simp⟩
 ·obtain ⟨m1,m2⟩:=mod_nat (n:=n) hd
  exact ⟨_,_,cf_on hd h0,cf_pos _ _ (by omega) (by omega)⟩
theorem cvg_dens {l:List Int}:∀ (c:(Int × Int) × (Int × Int)),(∀ y∈l,0 < y)→0≤c.1.2→0 < c.2.2→0≤(cvg l c).1.2∧0 < (cvg l c).2.2:=by
 induction l with
 | nil=>intro c _ h1 h2;exact ⟨h1,h2⟩
 | cons x l ih =>
  intro c h h1 h2
  have e:cvg (x :: l) c=cvg l (cst2 c x):=rfl
  rw [e]
  have hx:=Int.mul_pos h2 (h x List.mem_cons_self)
  exact ih _ (fun y hy=>h y (List.mem_cons_of_mem _ hy)) (by show 0≤c.2.2;omega) (by show 0 < c.2.2*x+c.1.2;omega)
structure Bs (A:Int) (D:Nat) (M:Nat) (p0 q0 p1 q1 x:Int):Prop where
 n0:0≤q0
 n1:0 < q1
 l0:q0≤M
 l1:q1≤M
 up:(M:Int) < q1*x+q0
 det:p0*q1 - p1*q0=1∨p0*q1 - p1*q0 = -1
 ex:∃ u v:Int,0 < v∧x*v≤u∧0 < q1*u+q0*v∧(p1*u+p0*v)*(D:Int)=A*(q1*u+q0*v)∧Int.gcd (p1*u+p0*v) (q1*u+q0*v)=1
theorem bs_of {A:Int} {D M:Nat} {s rest:List Int} {x p0 q0 p1 q1:Int} (hD:D≠0) (hM:0 < M) (e:s ++ x :: rest=cf A D) (hc:cvg s ((0,1),(1,0))=((p0,q0),(p1,q1))) (hup:(M:Int) < q1*x+q0) (h0M:q0≤M) (h1M:q1≤M):Bs A D M p0 q0 p1 q1 x:=by
 obtain ⟨y,l,hl,hpos⟩:=cf_tail (n:=A) hD
 have hs:s≠[]:=by
  rintro rfl
  simp only [cvg,List.foldl_nil,Prod.mk.injEq] at hc
  obtain ⟨⟨_,rfl⟩,_,rfl⟩:=hc
  omega
 obtain ⟨z,t,rfl⟩:=List.exists_cons_of_ne_nil hs
 have e2:z=y∧t ++ x :: rest=l:=by
  have:=e.trans hl
  simpa using this
 have hd:=cvg_dens (l:=t) (cst2 ((0,1),(1,0)) z) (fun w hw=>hpos w (by rw [←e2.2];exact List.mem_append_left _ hw)) (by simp [cst2]) (by simp [cst2])
 have hc2:cvg t (cst2 ((0,1),(1,0)) z)=((p0,q0),(p1,q1)):=hc
 rw [hc2] at hd
 have hdt:=cvg_det (z :: t) ((0,1),(1,0)) (by decide)
 rw [hc] at hdt
 have hrest:∀ y∈rest,0 < y:=fun w hw=>hpos w (by rw [←e2.2];exact List.mem_append_right _ (List.mem_cons_of_mem _ hw))
 obtain ⟨r1,r2⟩:=cpq_pos rest hrest
 have e3:cpq (cf A D)=(p1*(cpq (x :: rest)).1+p0*(cpq (x :: rest)).2,q1*(cpq (x :: rest)).1+q0*(cpq (x :: rest)).2):=by
  rw [←e,←cvg_begun]
  have:cvg (z :: t ++ x :: rest) ((0,1),(1,0))=cvg (x :: rest) (cvg (z :: t) ((0,1),(1,0))):=by unfold cvg;rw [List.foldl_append]
  rw [this,hc,cvg_is]
 obtain ⟨g1,g2⟩:=cpq_cf D A hD
 have g3:=cpq_cop (cf A D)
 rw [e3] at g1 g2 g3
 refine ⟨hd.1,hd.2,h0M,h1M,hup,hdt,(cpq (x :: rest)).1,(cpq (x :: rest)).2,r1,?_,g2,g1,g3⟩
 show x*(cpq rest).1≤x*(cpq rest).1+(cpq rest).2
 omega
theorem det_cop {p q P Q:Int} (h:P*q - p*Q=1∨P*q - p*Q = -1):Int.gcd p q=1:=by
 have h1:((Int.gcd p q:Nat):Int) ∣ P*q - p*Q:=Int.dvd_sub (Int.dvd_mul_of_dvd_right (Int.gcd_dvd_right ..)) (Int.dvd_mul_of_dvd_left (Int.gcd_dvd_left ..))
 have h2:((Int.gcd p q:Nat):Int) ∣ 1:=by
  rcases h with h | h
  ·rwa [h] at h1
  ·rw [h] at h1;exact Int.dvd_neg.1 h1
 have:=Int.le_of_dvd (by decide) h2
 have h3:Int.gcd p q≠0:=fun e=>by rw [e] at h2;simp at h2
 omega
theorem rat_cop {p q:Int} (hq:0 < q) (h:Int.gcd p q=1):(Rat.divInt p q).num=p∧((Rat.divInt p q).den:Int)=q:=by
 have h1:Rat.divInt p q=⟨p,q.toNat,by omega,by
  unfold Nat.Coprime
  rw [show q.toNat=q.natAbs by omega]
  exact h⟩:=by
  rw [Rat.mk_eq_divInt]
  congr 1
  omega
 rw [h1]
 exact ⟨rfl,by show ((q.toNat:Nat):Int)=q;omega⟩
theorem Bs.t {A:Int} {D M:Nat} {p0 q0 p1 q1 x:Int} (h:Bs A D M p0 q0 p1 q1 x):0≤(M - q0) / q1∧(M - q0) / q1 < x∧q1*((M - q0) / q1)+q0≤M∧(M:Int) < q1*((M - q0) / q1)+q0+q1:=by
 obtain ⟨h0,h1,h2,h3,h4,_,_⟩:=h
 have e:=Int.emod_add_mul_ediv ((M:Int) - q0) q1
 have m0:=Int.emod_nonneg ((M:Int) - q0) (show q1≠0 by omega)
 have m1:=Int.emod_lt_of_pos ((M:Int) - q0) h1
 have t0:0≤((M:Int) - q0) / q1:=Int.ediv_nonneg (by omega) (by omega)
 generalize ((M:Int) - q0) / q1=t at *
 generalize ((M:Int) - q0) % q1=m at *
 refine ⟨t0,?_,by omega,by omega⟩
 exact Int.lt_of_mul_lt_mul_left (show q1*t < q1*x by omega) (by omega)
theorem Bs.two {A:Int} {D M:Nat} {p0 q0 p1 q1 x t pb qb:Int} (h:Bs A D M p0 q0 p1 q1 x) (hD:0 < D) (ht:(M - q0) / q1=t) (epb:p1*t+p0=pb) (eqb:q1*t+q0=qb) :
  Int.gcd p1 q1=1∧Int.gcd pb qb=1∧0 < qb∧qb≤M ∧
  (ahd (Rat.divInt A D) (Rat.divInt p1 q1) (Rat.divInt pb qb)→Nrs (Rat.divInt A D) M (Rat.divInt p1 q1))∧(¬ ahd (Rat.divInt A D) (Rat.divInt p1 q1) (Rat.divInt pb qb)→Nrs (Rat.divInt A D) M (Rat.divInt pb qb)):=by
 obtain ⟨t0,t1,t2,t3⟩:=h.t
 rw [ht] at t0 t1 t2 t3
 obtain ⟨h0,h1,h2,h3,h4,h5,u,v,hv,hu,hR,hE,hg⟩:=h
 have hdb:pb*q1 - p1*qb=p0*q1 - p1*q0:=by subst epb eqb;grind
 have gb:Int.gcd pb qb=1:=det_cop (p:=pb) (q:=qb) (P:=p1) (Q:=q1) (by omega)
 have ga:Int.gcd p1 q1=1:=det_cop (p:=p1) (q:=q1) (P:=pb) (Q:=qb) (by omega)
 have hqb:0 < qb:=by
  rcases Int.lt_or_eq_of_le t0 with h | h
  ·have:=Int.mul_pos h1 h
   omega
  ·subst h
   have:q0≠0∨q0=0:=by omega
   rcases this with hz | hz
   ·omega
   ·omega
 obtain ⟨an,ad⟩:=rat_cop h1 ga
 obtain ⟨bn,bd⟩:=rat_cop hqb gb
 obtain ⟨rn',rd'⟩:=rat_cop hR hg
 have er:Rat.divInt A D=Rat.divInt (p1*u+p0*v) (q1*u+q0*v):=by
  rw [Rat.divInt_eq_divInt_iff (by omega) (by omega)]
  exact hE.symm
 rw [←er] at rn' rd'
 refine ⟨ga,gb,hqb,by omega,?_⟩
 have huv:0 < u - t*v:=by
  have:=Int.mul_lt_mul_of_pos_right t1 hv
  omega
 have c1:(p1*u+p0*v)*q1 - p1*(q1*u+q0*v)=v*(p0*q1 - p1*q0):=by grind
 have c2:pb*(q1*u+q0*v) - (p1*u+p0*v)*qb=(u - t*v)*(p0*q1 - p1*q0):=by subst epb eqb;grind
 refine nrs_pair (r:=Rat.divInt A D) (a:=Rat.divInt p1 q1) (b:=Rat.divInt pb qb) (M:=M) (by omega) (by omega) (by omega) ?_
 rw [Rat.le_iff,Rat.le_iff,Rat.le_iff,Rat.le_iff,an,ad,bn,bd,rn',rd']
 rcases h5 with h5 | h5
 ·refine Or.inl ⟨?_,?_,?_⟩
  ·rw [h5] at c1;omega
  ·rw [h5] at c2;omega
  ·omega
 ·refine Or.inr ⟨?_,?_,?_⟩
  ·rw [h5] at c2;omega
  ·rw [h5] at c1;omega
  ·omega
theorem am_near {P R Q S d k:Int} (hS:0 < S) (hQ:Q≤S) (hQ0:0≤Q) (h:P*S - R*Q=d*k) (hd:d=1∨d = -1) (hk:0≤k) (hkS:k≤S):P.natAbs≤R.natAbs+1:=by
 have h1:(P.natAbs:Int)*S≤(R.natAbs:Int)*S+S:=by
  have e1:(P.natAbs:Int)*S=((P*S).natAbs:Int):=by rw [Int.natAbs_mul,Int.natCast_mul];congr 1;omega
  have e2:((R*Q).natAbs:Int)=(R.natAbs:Int)*Q:=by rw [Int.natAbs_mul,Int.natCast_mul];congr 1;omega
  have e3:(R.natAbs:Int)*Q≤(R.natAbs:Int)*S:=Int.mul_le_mul_of_nonneg_left hQ (by omega)
  rcases hd with rfl | rfl <;> omega
 have h2:(P.natAbs:Int)*S≤((R.natAbs:Int)+1)*S:=by
  have:((R.natAbs:Int)+1)*S=(R.natAbs:Int)*S+S:=by grind
  omega
 have:=Int.le_of_mul_le_mul_right h2 hS
 omega
theorem cross_le {A D P Q:Int} (hD:0 < D) (hQ:0 < Q) (hE:P*D=A*Q) (hg:Int.gcd P Q=1):P.natAbs≤A.natAbs∧Q≤D:=by
 have h1:Q ∣ P*D:=by rw [hE];exact Int.dvd_mul_left ..
 have h2:Q ∣ D:=by
  have h3:Q.natAbs ∣ P.natAbs*D.natAbs:=by rw [←Int.natAbs_mul];exact Int.natAbs_dvd_natAbs.2 h1
  have h4:Nat.Coprime Q.natAbs P.natAbs:=by unfold Nat.Coprime;rw [Nat.gcd_comm];exact hg
  exact Int.natAbs_dvd_natAbs.1 (h4.dvd_of_dvd_mul_left h3)
 obtain ⟨k,hk⟩:=h2
 have hk0:0 < k:=by
  rcases Int.lt_trichotomy k 0 with h | h | h
  ·have:=Int.mul_neg_of_pos_of_neg hQ h
   omega
  ·rw [h] at hk;omega
  ·exact h
 subst hk
 have hA:A=P*k:=by
  have:A*Q=P*k*Q:=by rw [←hE];grind
  exact Int.eq_of_mul_eq_mul_right (by omega) this
 refine ⟨?_,?_⟩
 ·rw [hA,Int.natAbs_mul]
  exact Nat.le_mul_of_pos_right _ (by omega)
 ·have:=Int.mul_le_mul_of_nonneg_left (show 1≤k by omega) (Int.le_of_lt hQ)
  omega
theorem Bs.big {A:Int} {D M:Nat} {p0 q0 p1 q1 x t pb qb:Int} (h:Bs A D M p0 q0 p1 q1 x) (hD:0 < D) (ht:(M - q0) / q1=t) (epb:p1*t+p0=pb) (eqb:q1*t+q0=qb):p1.natAbs≤A.natAbs+1∧pb.natAbs≤A.natAbs+1∧q1≤D∧qb≤D:=by
 obtain ⟨t0,t1,t2,t3⟩:=h.t
 obtain ⟨_,_,hqb,_⟩:=h.two hD ht epb eqb
 rw [ht] at t0 t1 t2 t3
 obtain ⟨h0,h1,h2,h3,h4,h5,u,v,hv,hu,hR,hE,hg⟩:=h
 obtain ⟨c1,c2⟩:=cross_le (by omega) hR hE hg
 have huv:(t+1)*v≤u:=by
  have:=Int.mul_le_mul_of_nonneg_right (show t+1≤x by omega) (Int.le_of_lt hv)
  omega
 have e0:(t+1)*v=t*v+v:=by grind
 have htv:0≤t*v:=Int.mul_nonneg t0 (by omega)
 have hu1:u≤q1*u:=by
  have:=Int.mul_le_mul_of_nonneg_right (show 1≤q1 by omega) (show 0≤u by omega)
  omega
 have hq0v:0≤q0*v:=Int.mul_nonneg h0 (by omega)
 have hq1u:q1*1≤q1*u:=Int.mul_le_mul_of_nonneg_left (by omega) (by omega)
 have hqbR:qb≤q1*u+q0*v:=by
  have g1:q1*t≤q1*u:=Int.mul_le_mul_of_nonneg_left (show t≤u by
   have:=Int.mul_le_mul_of_nonneg_left (show 1≤v by omega) t0
   omega) (by omega)
  have g2:q0*1≤q0*v:=Int.mul_le_mul_of_nonneg_left (by omega) h0
  omega
 have d1:p1*(q1*u+q0*v) - (p1*u+p0*v)*q1 = -(p0*q1 - p1*q0)*v:=by grind
 have d2:pb*(q1*u+q0*v) - (p1*u+p0*v)*qb=(p0*q1 - p1*q0)*(u - t*v):=by subst epb eqb;grind
 have b1:=am_near hR (show q1≤q1*u+q0*v by omega) (by omega) d1 (by omega) (by omega) (by omega)
 have b2:=am_near hR hqbR (by omega) d2 h5 (by omega) (by omega)
 exact ⟨by omega,by omega,by omega,by omega⟩
theorem cvg_bd {A:Int} {D:Nat} {s rest:List Int} {p0 q0 p1 q1:Int} (hD:D≠0) (e:s ++ rest=cf A D) (hc:cvg s ((0,1),(1,0))=((p0,q0),(p1,q1))):p1.natAbs≤A.natAbs+1∧0≤q1∧q1≤D∧(s≠[]→0 < q1):=by
 obtain ⟨y,l,hl,hpos⟩:=cf_tail (n:=A) hD
 cases s with
 | nil =>
  simp only [cvg,List.foldl_nil,Prod.mk.injEq] at hc
  obtain ⟨⟨_,rfl⟩,rfl,rfl⟩:=hc
  exact ⟨by omega,by omega,by omega,fun h=>absurd rfl h⟩
 | cons z t =>
  have e2:z=y∧t ++ rest=l:=by
   have:=e.trans hl
   simpa using this
  have hd:=cvg_dens (l:=t) (cst2 ((0,1),(1,0)) z) (fun w hw=>hpos w (by rw [←e2.2];exact List.mem_append_left _ hw)) (by simp [cst2]) (by simp [cst2])
  have hc2:cvg t (cst2 ((0,1),(1,0)) z)=((p0,q0),(p1,q1)):=hc
  rw [hc2] at hd
  obtain ⟨d1,d2⟩:0≤q0∧0 < q1:=hd
  have hdt:=cvg_det (z :: t) ((0,1),(1,0)) (by decide)
  rw [hc] at hdt
  replace hdt:p0*q1 - p1*q0=1∨p0*q1 - p1*q0 = -1:=hdt
  have hrest:∀ y∈rest,0 < y:=fun w hw=>hpos w (by rw [←e2.2];exact List.mem_append_right _ hw)
  obtain ⟨r1,r2⟩:=cpq_pos rest hrest
  have r3:(cpq rest).2≤(cpq rest).1:=by
   cases rest with
   | nil=>decide
   | cons x k =>
    have hx:=hrest x List.mem_cons_self
    obtain ⟨k1,k2⟩:=cpq_pos k fun w hw=>hrest w (List.mem_cons_of_mem _ hw)
    show (cpq k).1≤x*(cpq k).1+(cpq k).2
    have:=Int.mul_le_mul_of_nonneg_right (show 1≤x by omega) (Int.le_of_lt k1)
    omega
  have e3:cpq (cf A D)=(p1*(cpq rest).1+p0*(cpq rest).2,q1*(cpq rest).1+q0*(cpq rest).2):=by
   rw [←e,←cvg_begun]
   have:cvg (z :: t ++ rest) ((0,1),(1,0))=cvg rest (cvg (z :: t) ((0,1),(1,0))):=by unfold cvg;rw [List.foldl_append]
   rw [this,hc,cvg_is]
  obtain ⟨g1,g2⟩:=cpq_cf D A hD
  have g3:=cpq_cop (cf A D)
  rw [e3] at g1 g2 g3
  generalize (cpq rest).1=u at *
  generalize (cpq rest).2=v at *
  simp only at g1 g2 g3
  obtain ⟨c1,c2⟩:=cross_le (by omega) g2 g1 g3
  have f1:p1*(q1*u+q0*v) - (p1*u+p0*v)*q1 = -(p0*q1 - p1*q0)*v:=by grind
  have f2:q1*1≤q1*u:=Int.mul_le_mul_of_nonneg_left (by omega) (by omega)
  have f3:0≤q0*v:=Int.mul_nonneg d1 r2
  have f4:1*u≤q1*u:=Int.mul_le_mul_of_nonneg_right (by omega) (by omega)
  have f5:=am_near g2 (show q1≤q1*u+q0*v by omega) (by omega) f1 (by omega) r2 (by omega)
  exact ⟨by omega,by omega,by omega,fun _=>d2⟩
theorem cvg_whole {A:Int} {D:Nat} {p0 q0 p1 q1:Int} (hD:D≠0) (hc:cvg (cf A D) ((0,1),(1,0))=((p0,q0),(p1,q1))):Rat.divInt A D=Rat.divInt p1 q1∧(Rat.divInt A D).num=p1∧((Rat.divInt A D).den:Int)=q1:=by
 obtain ⟨g1,g2⟩:=cpq_cf D A hD
 have g3:=cpq_cop (cf A D)
 have e:cpq (cf A D)=(p1,q1):=by rw [←cvg_begun,hc]
 rw [e] at g1 g2 g3
 have er:Rat.divInt A D=Rat.divInt p1 q1:=by
  rw [Rat.divInt_eq_divInt_iff (by omega) (by omega)]
  exact g1.symm
 rw [er]
 exact ⟨rfl,rat_cop g2 g3⟩
end Go.Proofs.YtejlnodillnoaaaGreatDoor
