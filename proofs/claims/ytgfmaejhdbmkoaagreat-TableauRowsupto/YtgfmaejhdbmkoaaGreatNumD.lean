import Derived.Test.YtgfmaejhdbmkoaaGreatNumM
set_option linter.unusedSimpArgs false
namespace Go.Proofs.YtgfmaejhdbmkoaaGreat
set_option linter.unusedVariables false
def rcy (X y k:Nat):Nat:=X / BB ^ k % y
theorem rcy_lt {y:Nat} (h:0 < y) (X k:Nat):rcy X y k < y:=Nat.mod_lt _ h
theorem lim_t (X y k:Nat):rcy X y (k+1)*4294967296+dg X k=X / BB ^ k % (y*BB):=by
 have e:=xJ5 X k
 have hd:=xZ2 X k
 unfold rcy
 rw [←BB_eq] at hd ⊢
 rw [e,Nat.mul_comm y BB,Nat.mod_mul,Nat.mul_comm (X / BB ^ (k+1)) BB,Nat.mul_add_mod,Nat.mod_eq_of_lt hd,Nat.mul_add_div BB_pos,Nat.div_eq_of_lt hd,Nat.add_zero]
 ac_rfl
theorem lim_dg (X y k:Nat):(rcy X y (k+1)*4294967296+dg X k) / y % 4294967296=dg (X / y) k:=by
 rw [lim_t,Nat.mod_mul_right_div_self,←BB_eq,Nat.mod_mod]
 unfold dg
 rw [Nat.div_div_eq_div_mul,Nat.div_div_eq_div_mul,Nat.mul_comm]
theorem lim_cy (X y k:Nat):(rcy X y (k+1)*4294967296+dg X k) % y=rcy X y k:=by
 rw [lim_t,Nat.mod_mul_right_mod];rfl
section
variable {B:Nat}
def guessB (B high d1 d2 u0:Nat):Nat:=min (B - 1) ((high*B+u0) / (d1*B+d2))
theorem g_cond {m rest high d1 d2 u0:Nat} (h:m*d1+rest=high):(rest*B+u0 < m*d2)↔(high*B+u0 < m*(d1*B+d2)):=by
 subst h
 rw [Nat.mul_add,Nat.add_mul,←Nat.mul_assoc]
 omega
theorem g_exit {m high d1 d2 u0:Nat} (hD:0 < d1*B+d2) (hm:m < B) (hle:m*(d1*B+d2)≤high*B+u0) (hM:guessB B high d1 d2 u0≤m):m=guessB B high d1 d2 u0:=by
 have h1:m≤(high*B+u0) / (d1*B+d2):=(Nat.le_div_iff_mul_le hD).2 hle
 unfold guessB at *
 generalize (high*B+u0) / (d1*B+d2)=q at *
 omega
theorem g_le (high d1 d2 u0:Nat):guessB B high d1 d2 u0≤B - 1:=Nat.min_le_left _ _
theorem g_fits (high d1 d2 u0:Nat):guessB B high d1 d2 u0*(d1*B+d2)≤high*B+u0 :=
 Nat.le_trans (Nat.mul_le_mul_right _ (Nat.min_le_right _ _)) (Nat.div_mul_le_self _ _)
theorem g_step {m high d1 d2 u0:Nat} (hB:0 < B) (h:B≤m∨high*B+u0 < m*(d1*B+d2)) (hM:guessB B high d1 d2 u0≤m):guessB B high d1 d2 u0+1≤m:=by
 have h1:=g_le (B:=B) high d1 d2 u0
 have h2:=g_fits (B:=B) high d1 d2 u0
 generalize guessB B high d1 d2 u0=M at *
 rcases h with h | h
 ·omega
 ·by_cases e:M=m
  ·subst e;omega
  ·omega
theorem g_start {high d1 d2 u0:Nat} (hB:0 < B) (hD:0 < d1) (hu:u0 < B):guessB B high d1 d2 u0≤high / d1:=by
 refine Nat.le_trans (Nat.min_le_right _ _) ?_
 rw [Nat.le_div_iff_mul_le hD]
 have h2:=Nat.div_mul_le_self (high*B+u0) (d1*B+d2)
 generalize (high*B+u0) / (d1*B+d2)=q at *
 rw [Nat.mul_add,←Nat.mul_assoc] at h2
 have h3:q*d1*B < (high+1)*B:=by rw [Nat.add_mul];omega
 exact Nat.le_of_lt_succ (Nat.lt_of_mul_lt_mul_right h3)
theorem g_break {m rest high d1 d2 u0:Nat} (h:m*d1+rest=high) (hm:m < B) (hd2:d2 < B) (hr:B≤rest):m*(d1*B+d2)≤high*B+u0:=by
 have h1:=g_cond (B:=B) (d2:=d2) (u0:=u0) h
 have h2:m*d2≤B*B:=Nat.mul_le_mul (Nat.le_of_lt hm) (Nat.le_of_lt hd2)
 have h3:B*B≤rest*B:=Nat.mul_le_mul_right _ hr
 omega
theorem knuth {V D high u0 d1 d2 p low dlow:Nat} (hB:0 < B) (hp:0 < p) (hV:V=(high*B+u0)*p+low) (hD:D=(d1*B+d2)*p+dlow) (hlow:low < p) (hdlow:dlow < p) (hd1:0 < d1) (hVD:V < D*B) :
  V / D≤guessB B high d1 d2 u0∧guessB B high d1 d2 u0≤V / D+1:=by
 have hd:B≤d1*B+d2:=Nat.le_trans (Nat.le_mul_of_pos_left B hd1) (Nat.le_add_right _ _)
 have hDB:B*p≤D:=by rw [hD];exact Nat.le_trans (Nat.mul_le_mul_right _ hd) (Nat.le_add_right _ _)
 have hDp:0 < D:=Nat.lt_of_lt_of_le (Nat.mul_pos hB hp) hDB
 have hq1:V / D < B:=(Nat.div_lt_iff_lt_mul hDp).2 (by rw [Nat.mul_comm];exact hVD)
 constructor
 ·have h2:=Nat.div_mul_le_self V D
  have h3:V / D*(d1*B+d2)≤high*B+u0:=by
   have h4:V / D*(d1*B+d2)*p≤V:=by
    refine Nat.le_trans ?_ h2
    rw [Nat.mul_assoc]
    exact Nat.mul_le_mul_left _ (by rw [hD];exact Nat.le_add_right _ _)
   generalize V / D*(d1*B+d2)=t at *
   generalize high*B+u0=u at *
   have h5:t*p < (u+1)*p:=by rw [Nat.add_mul];omega
   exact Nat.le_of_lt_succ (Nat.lt_of_mul_lt_mul_right h5)
  have h6:V / D≤(high*B+u0) / (d1*B+d2):=(Nat.le_div_iff_mul_le (by omega)).2 h3
  exact Nat.le_min.2 ⟨by omega,h6⟩
 ·have hf:=g_fits (B:=B) high d1 d2 u0
  have hg:=g_le (B:=B) high d1 d2 u0
  generalize guessB B high d1 d2 u0=m at *
  by_cases hm:m=0
  ·rw [hm];exact Nat.zero_le _
  ·have h1:m*(d1*B+d2)*p≤(high*B+u0)*p:=Nat.mul_le_mul_right _ hf
   have h2:m*D=m*(d1*B+d2)*p+m*dlow:=by rw [hD,Nat.mul_add,←Nat.mul_assoc]
   have h3:m*dlow≤B*p:=Nat.mul_le_mul (by omega) (by omega)
   have h5:(m - 1)*D≤V:=by
    rw [Nat.sub_mul,Nat.one_mul]
    generalize m*(d1*B+d2)*p=t at *
    generalize (high*B+u0)*p=u at *
    omega
   have h6:m - 1≤V / D:=(Nat.le_div_iff_mul_le hDp).2 h5
   generalize V / D=qq at h6 ⊢
   omega
end
theorem st_step {V D m k c N z c':Nat} (h:V % BB ^ k+c*BB ^ k=m*(D % BB ^ k)+N) (hs:dg V k+c'*BB=dg D k*m+c+z) :
  V % BB ^ (k+1)+c'*BB ^ (k+1)=m*(D % BB ^ (k+1))+(N+z*BB ^ k):=by
 rw [xJ9,xJ9,xQ7,Nat.mul_add]
 have e1:c'*(BB ^ k*BB)=c'*BB*BB ^ k:=by rw [Nat.mul_comm (BB ^ k),Nat.mul_assoc]
 have e2:m*(dg D k*BB ^ k)=dg D k*m*BB ^ k:=by rw [←Nat.mul_assoc,Nat.mul_comm m]
 have e3:(dg V k+c'*BB)*BB ^ k=(dg D k*m+c+z)*BB ^ k:=by rw [hs]
 rw [e1,e2]
 rw [Nat.add_mul,Nat.add_mul,Nat.add_mul] at e3
 omega
theorem st_bound {V D m k c N:Nat} (h:V % BB ^ k+c*BB ^ k=m*(D % BB ^ k)+N) (hN:N < BB ^ k):c≤m:=by
 have h1:D % BB ^ k < BB ^ k:=Nat.mod_lt _ (BBp k)
 have h2:m*(D % BB ^ k)≤m*BB ^ k:=Nat.mul_le_mul_left _ (Nat.le_of_lt h1)
 have h3:c*BB ^ k < (m+1)*BB ^ k:=by
  rw [Nat.add_mul]
  generalize V % BB ^ k=v at *
  generalize m*(D % BB ^ k)=t at *
  omega
 exact Nat.le_of_lt_succ (Nat.lt_of_mul_lt_mul_right h3)
theorem dv_part {V D i:Nat}:V % (D*BB ^ (i+1)) / BB ^ i=V / BB ^ i % (D*BB):=by
 rw [xQ7,←Nat.mul_assoc,Nat.mul_right_comm,Nat.mul_comm (D*BB),Nat.mod_mul_right_div_self]
theorem dv_dg {V D i:Nat}:V / BB ^ i % (D*BB) / D=dg (V / D) i:=by
 rw [Nat.mod_mul_right_div_self,dg,Nat.div_div_eq_div_mul,Nat.div_div_eq_div_mul,Nat.mul_comm D]
theorem dv_rest {V D i n:Nat} (hn:V % (D*BB ^ (i+1)) < BB ^ (i+n)):put (V % (D*BB ^ (i+1))) i n (V / BB ^ i % (D*BB) % D)=V % (D*BB ^ i):=by
 rw [put_high hn,Nat.mod_mul_right_mod]
 have e:V % (D*BB ^ (i+1)) % BB ^ i=V % BB ^ i:=by
  rw [xQ7,←Nat.mul_assoc,Nat.mul_right_comm];exact Nat.mod_mul_left_mod _ _ _
 rw [e,Nat.mul_comm D,Nat.mod_mul,Nat.add_comm,Nat.mul_comm]
end Go.Proofs.YtgfmaejhdbmkoaaGreat
