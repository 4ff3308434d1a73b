set_option linter.unusedSimpArgs false
namespace Go.Proofs.YtgfmaejhdbmkoaaGreat
def BB:Nat:=4294967296
theorem BB_eq:BB=4294967296:=rfl
theorem BB_pos:0 < BB:=by rw [BB_eq];omega
theorem BBp (k:Nat):0 < BB ^ k:=Nat.pow_pos BB_pos
def dg (X i:Nat):Nat:=X / BB ^ i % BB
theorem xZ2 (X i:Nat):dg X i < 4294967296:=by rw [←BB_eq];exact Nat.mod_lt _ BB_pos
theorem dg_zero (i:Nat):dg 0 i=0:=by simp [dg]
theorem dg_big {X i:Nat} (h:X < BB ^ i):dg X i=0:=by simp [dg,Nat.div_eq_of_lt h]
theorem xX4 {i j:Nat} (h:i≤j):BB ^ i≤BB ^ j:=Nat.pow_le_pow_right BB_pos h
theorem xQ7 (k:Nat):BB ^ (k+1)=BB ^ k*BB:=Nat.pow_succ BB k
theorem xJ9 (X k:Nat):X % BB ^ (k+1)=X % BB ^ k+dg X k*BB ^ k:=by
 rw [dg,xQ7,Nat.mod_mul,Nat.mul_comm]
theorem xJ5 (X k:Nat):X / BB ^ k=X / BB ^ (k+1)*BB+dg X k:=by
 rw [dg,xQ7,←Nat.div_div_eq_div_mul]
 have:=Nat.div_add_mod (X / BB ^ k) BB
 rw [Nat.mul_comm] at this
 exact this.symm
theorem xZ8 (X k:Nat):X=X / BB ^ k*BB ^ k+X % BB ^ k:=by
 have:=Nat.div_add_mod X (BB ^ k)
 rw [Nat.mul_comm] at this
 exact this.symm
theorem dg_ext {X Y n:Nat} (hX:X < BB ^ n) (hY:Y < BB ^ n) (h:∀ i,i < n→dg X i=dg Y i):X=Y:=by
 have:∀ k,k≤n→X % BB ^ k=Y % BB ^ k:=by
  intro k
  induction k with
  | zero=>intro _;simp [Nat.mod_one]
  | succ k ih=>intro hk;rw [xJ9,xJ9,ih (by omega),h k (by omega)]
 have:=this n (Nat.le_refl _)
 rwa [Nat.mod_eq_of_lt hX,Nat.mod_eq_of_lt hY] at this
def ln (X:Nat):Nat:=if h:X=0 then 0 else ln (X / BB)+1
termination_by X
decreasing_by exact Nat.div_lt_self (by omega) (by rw [BB_eq];omega)
theorem xX7:ln 0=0:=by rw [ln];simp
theorem ln_pos {X:Nat} (h:X≠0):ln X=ln (X / BB)+1:=by rw [ln];simp [h]
theorem xJ3 (X:Nat):X < BB ^ ln X:=by
 induction X using Nat.strongRecOn with
 | ind X ih =>
  by_cases h:X=0
  ·subst h;simp [xX7]
  ·rw [ln_pos h,xQ7]
   have:=ih (X / BB) (Nat.div_lt_self (by omega) (by rw [BB_eq];omega))
   exact (Nat.div_lt_iff_lt_mul BB_pos).1 this
theorem ln_le {X:Nat} (h:X≠0):BB ^ (ln X - 1)≤X:=by
 induction X using Nat.strongRecOn with
 | ind X ih =>
  rw [ln_pos h,Nat.add_sub_cancel]
  by_cases hd:X / BB=0
  ·rw [hd,xX7];simp;omega
  ·have:=ih (X / BB) (Nat.div_lt_self (by omega) (by rw [BB_eq];omega)) hd
   have hl:ln (X / BB)=ln (X / BB) - 1+1:=by rw [ln_pos hd];omega
   rw [hl,xQ7]
   exact (Nat.le_div_iff_mul_le BB_pos).1 this
theorem xQ4 {X n:Nat} (h:X < BB ^ n):ln X≤n:=by
 by_cases h0:X=0
 ·subst h0;simp [xX7]
 ·have h1:=ln_le h0
  by_cases hc:ln X≤n
  ·exact hc
  ·have:=xX4 (show n≤ln X - 1 by omega)
   omega
theorem ln_eq_zero {X:Nat}:ln X=0↔X=0:=by
 constructor
 ·intro h
  have:=xJ3 X
  rw [h] at this
  simpa using this
 ·rintro rfl;exact xX7
theorem xZ4 {X Y:Nat} (h:X≤Y):ln X≤ln Y:=xQ4 (Nat.lt_of_le_of_lt h (xJ3 Y))
theorem ln_of_top {X n:Nat} (h:X < BB ^ n) (ht:dg X (n - 1)≠0):ln X=n:=by
 by_cases hn:n=0
 ·subst hn;have:X=0:=by simpa using h
  subst this;exact xX7
 ·have h1:=xQ4 h
  by_cases hc:ln X=n
  ·exact hc
  ·exact absurd (dg_big (Nat.lt_of_lt_of_le (xJ3 X) (xX4 (show ln X≤n - 1 by omega)))) ht
theorem dg_top {X:Nat} (h:X≠0):dg X (ln X - 1)≠0:=by
 have h1:=ln_le h
 have h2:=xJ3 X
 have h3:ln X≠0:=fun e=>h (ln_eq_zero.1 e)
 have hp:ln X=ln X - 1+1:=by omega
 rw [hp,xQ7] at h2
 have h4:X / BB ^ (ln X - 1) < BB:=(Nat.div_lt_iff_lt_mul (BBp _)).2 (by rw [Nat.mul_comm];exact h2)
 have h5:0 < X / BB ^ (ln X - 1):=Nat.div_pos h1 (BBp _)
 unfold dg
 rw [Nat.mod_eq_of_lt h4]
 omega
theorem lt_of_dg_zero {X k:Nat} (h:X < BB ^ (k+1)) (h0:dg X k=0):X < BB ^ k:=by
 have:=xJ9 X k
 rw [Nat.mod_eq_of_lt h,h0,Nat.zero_mul,Nat.add_zero] at this
 rw [this];exact Nat.mod_lt _ (BBp k)
def mix (Z X k:Nat):Nat:=X / BB ^ k*BB ^ k+Z % BB ^ k
theorem mix_zero (Z X:Nat):mix Z X 0=X:=by simp [mix,Nat.mod_one]
theorem dg_add_mul (a r i k:Nat) (h:i < k):dg (a*BB ^ k+r) i=dg r i:=by
 obtain ⟨j,rfl⟩:∃ j,k=i+1+j:=⟨k - (i+1),by omega⟩
 unfold dg
 rw [Nat.pow_add,Nat.pow_succ,show a*(BB ^ i*BB*BB ^ j)=BB ^ i*(a*BB ^ j*BB) by simp only [Nat.mul_comm,Nat.mul_left_comm,Nat.mul_assoc],Nat.mul_add_div (BBp i),Nat.add_comm,Nat.add_mul_mod_self_right]
theorem dg_mod (X i k:Nat) (h:i < k):dg (X % BB ^ k) i=dg X i:=by
 have:=dg_add_mul (X / BB ^ k) (X % BB ^ k) i k h
 rw [←xZ8] at this
 exact this.symm
theorem dg_hi (a r i k:Nat) (h:k≤i) (hr:r < BB ^ k):dg (a*BB ^ k+r) i=dg a (i - k):=by
 obtain ⟨j,rfl⟩:∃ j,i=k+j:=⟨i - k,by omega⟩
 unfold dg
 rw [Nat.pow_add,←Nat.div_div_eq_div_mul,Nat.mul_comm a,Nat.mul_add_div (BBp k),Nat.div_eq_of_lt hr,Nat.add_zero,Nat.add_sub_cancel_left]
theorem dg_div (X k i:Nat):dg (X / BB ^ k) i=dg X (k+i):=by
 unfold dg;rw [Nat.pow_add,Nat.div_div_eq_div_mul]
theorem dg_mix_lo (Z X:Nat) {i k:Nat} (h:i < k):dg (mix Z X k) i=dg Z i:=by
 unfold mix;rw [dg_add_mul _ _ _ _ h,dg_mod _ _ _ h]
theorem dg_mix_hi (Z X:Nat) {i k:Nat} (h:k≤i):dg (mix Z X k) i=dg X i:=by
 unfold mix;rw [dg_hi _ _ _ _ h (Nat.mod_lt _ (BBp k)),dg_div,Nat.add_sub_cancel' h]
theorem mix_lt {Z X k n:Nat} (hX:X < BB ^ n) (hk:k≤n):mix Z X k < BB ^ n:=by
 unfold mix
 have h1:X / BB ^ k < BB ^ (n - k):=(Nat.div_lt_iff_lt_mul (BBp k)).2 (by rw [←Nat.pow_add,Nat.sub_add_cancel hk];exact hX)
 have h2:Z % BB ^ k < BB ^ k:=Nat.mod_lt _ (BBp k)
 have h3:(X / BB ^ k+1)*BB ^ k≤BB ^ (n - k)*BB ^ k:=Nat.mul_le_mul_right _ h1
 rw [←Nat.pow_add,Nat.sub_add_cancel hk,Nat.add_mul] at h3
 omega
theorem mix_full {Z X n:Nat} (hX:X < BB ^ n) (hZ:Z < BB ^ n):mix Z X n=Z:=by
 unfold mix;rw [Nat.div_eq_of_lt hX,Nat.mod_eq_of_lt hZ];simp
theorem mix_nought {X k:Nat} (h:X < BB ^ k):mix X 0 k=X:=by unfold mix;rw [Nat.zero_div,Nat.mod_eq_of_lt h];simp
def cy (X Y k:Nat):Nat:=(X % BB ^ k+Y % BB ^ k) / BB ^ k
theorem cy_zero (X Y:Nat):cy X Y 0=0:=by simp [cy,Nat.mod_one]
theorem cy_le (X Y k:Nat):cy X Y k≤1:=by
 unfold cy
 have h1:X % BB ^ k < BB ^ k:=Nat.mod_lt _ (BBp k)
 have h2:Y % BB ^ k < BB ^ k:=Nat.mod_lt _ (BBp k)
 have:(X % BB ^ k+Y % BB ^ k) / BB ^ k < 2:=(Nat.div_lt_iff_lt_mul (BBp k)).2 (by omega)
 omega
theorem add_div_split (X Y k:Nat):(X+Y) / BB ^ k=X / BB ^ k+Y / BB ^ k+cy X Y k:=by
 have h1:=xZ8 X k
 have h2:=xZ8 Y k
 have h3:X+Y=BB ^ k*(X / BB ^ k+Y / BB ^ k)+(X % BB ^ k+Y % BB ^ k):=by
  rw [Nat.mul_add,Nat.mul_comm _ (X / BB ^ k),Nat.mul_comm _ (Y / BB ^ k)];omega
 rw [h3,Nat.mul_add_div (BBp k),cy]
theorem add_dg (X Y k:Nat):(dg X k+dg Y k+cy X Y k) % 4294967296=dg (X+Y) k:=by
 rw [←BB_eq]
 rw [show dg (X+Y) k=((X+Y) / BB ^ k) % BB from rfl,add_div_split]
 unfold dg
 simp [Nat.add_mod]
theorem add_cy (X Y k:Nat):(dg X k+dg Y k+cy X Y k) / 4294967296=cy X Y (k+1):=by
 rw [←BB_eq]
 have h:=Nat.div_add_mod (X % BB ^ k+Y % BB ^ k) (BB ^ k)
 rw [show (X % BB ^ k+Y % BB ^ k) / BB ^ k=cy X Y k from rfl] at h
 have hr:(X % BB ^ k+Y % BB ^ k) % BB ^ k < BB ^ k:=Nat.mod_lt _ (BBp k)
 have e:X % BB ^ (k+1)+Y % BB ^ (k+1)=BB ^ k*(dg X k+dg Y k+cy X Y k)+(X % BB ^ k+Y % BB ^ k) % BB ^ k:=by
  rw [xJ9,xJ9,Nat.mul_add,Nat.mul_add,Nat.mul_comm _ (dg X k),Nat.mul_comm _ (dg Y k)];omega
 rw [show cy X Y (k+1)=(X % BB ^ (k+1)+Y % BB ^ (k+1)) / BB ^ (k+1) from rfl,e,xQ7,←Nat.div_div_eq_div_mul,Nat.mul_add_div (BBp k),Nat.div_eq_of_lt hr,Nat.add_zero]
theorem add_dg_nocy {X Y m k:Nat} (hY:Y < BB ^ m) (hc:cy X Y m=0) (h:m≤k):dg (X+Y) k=dg X k:=by
 have h1:=add_div_split X Y m
 rw [hc,Nat.div_eq_of_lt hY] at h1
 have:dg ((X+Y) / BB ^ m) (k - m)=dg (X / BB ^ m) (k - m):=by rw [h1];simp
 rwa [dg_div,dg_div,Nat.add_sub_cancel' h] at this
def bw (X Y k:Nat):Nat:=if X % BB ^ k < Y % BB ^ k then 1 else 0
theorem bw_zero (X Y:Nat):bw X Y 0=0:=by simp [bw,Nat.mod_one]
theorem bw_le (X Y k:Nat):bw X Y k≤1:=by unfold bw;split <;> omega
theorem sub_div_split {X Y:Nat} (k:Nat) (h:Y≤X):(X - Y) / BB ^ k+Y / BB ^ k+bw X Y k=X / BB ^ k:=by
 have h1:=add_div_split (X - Y) Y k
 rw [Nat.sub_add_cancel h] at h1
 have h2:cy (X - Y) Y k=bw X Y k:=by
  unfold bw cy
  have l1:X % BB ^ k < BB ^ k:=Nat.mod_lt _ (BBp k)
  have l2:Y % BB ^ k < BB ^ k:=Nat.mod_lt _ (BBp k)
  have l3:(X - Y) % BB ^ k < BB ^ k:=Nat.mod_lt _ (BBp k)
  have e4:((X - Y) % BB ^ k+Y % BB ^ k) % BB ^ k=X % BB ^ k:=by
   rw [←Nat.add_mod,Nat.sub_add_cancel h]
  generalize (X - Y) % BB ^ k=d at *
  generalize Y % BB ^ k=y at *
  generalize X % BB ^ k=x at *
  generalize BB ^ k=p at *
  by_cases hs:d+y < p
  ·rw [Nat.mod_eq_of_lt hs] at e4
   rw [Nat.div_eq_of_lt hs,if_neg (by omega)]
  ·have e5:(d+y) % p=d+y - p:=by
    rw [Nat.mod_eq_sub_mod (by omega),Nat.mod_eq_of_lt (by omega)]
   rw [if_pos (by omega)]
   apply Nat.div_eq_of_lt_le <;> omega
 rw [←h2];exact h1.symm
theorem sub_step {X Y:Nat} (k:Nat) (h:Y≤X):dg (X - Y) k+dg Y k+bw X Y k=dg X k+4294967296*bw X Y (k+1):=by
 have h1:=sub_div_split k h
 have h2:=sub_div_split (k+1) h
 have e1:=xJ5 X k
 have e2:=xJ5 Y k
 have e3:=xJ5 (X - Y) k
 have h4:dg (X - Y) k+dg Y k+bw X Y k=dg X k+BB*bw X Y (k+1):=by
  have:((X - Y) / BB ^ (k+1)+Y / BB ^ (k+1)+bw X Y (k+1))*BB=X / BB ^ (k+1)*BB:=by rw [h2]
  rw [Nat.add_mul,Nat.add_mul] at this
  rw [Nat.mul_comm BB]
  omega
 rwa [BB_eq] at h4
theorem sub_dg_nobw {X Y m k:Nat} (h:Y≤X) (hY:Y < BB ^ m) (hc:bw X Y m=0) (hk:m≤k):dg (X - Y) k=dg X k:=by
 have h1:=sub_div_split m h
 rw [hc,Nat.div_eq_of_lt hY] at h1
 have:dg ((X - Y) / BB ^ m) (k - m)=dg (X / BB ^ m) (k - m):=by rw [←h1];simp
 rwa [dg_div,dg_div,Nat.add_sub_cancel' hk] at this
theorem lt_of_top_dg {X Y k:Nat} (hhi:X / BB ^ (k+1)=Y / BB ^ (k+1)) (h:dg X k < dg Y k):X < Y:=by
 have e1:=xJ5 X k
 have e2:=xJ5 Y k
 have:X / BB ^ k < Y / BB ^ k:=by rw [e1,e2,hhi];omega
 exact Nat.lt_of_not_le fun hle=>absurd (Nat.div_le_div_right (c:=BB ^ k) hle) (by omega)
theorem div_eq_of_dg {X Y k:Nat} (hhi:X / BB ^ (k+1)=Y / BB ^ (k+1)) (h:dg X k=dg Y k):X / BB ^ k=Y / BB ^ k:=by
 rw [xJ5 X k,xJ5 Y k,hhi,h]
theorem div_big {X n:Nat} (h:X < BB ^ n):X / BB ^ n=0:=Nat.div_eq_of_lt h
def lo (X k:Nat):Nat:=X % BB ^ k
theorem lo_zero (X:Nat):lo X 0=0:=by simp [lo,Nat.mod_one]
theorem lo_succ (X k:Nat):lo X (k+1)=lo X k+dg X k*BB ^ k:=xJ9 X k
theorem lo_full {X n:Nat} (h:X < BB ^ n):lo X n=X:=Nat.mod_eq_of_lt h
theorem lo_lt (X k:Nat):lo X k < BB ^ k:=Nat.mod_lt _ (BBp k)
theorem BB2:BB ^ 2=18446744073709551616:=by rw [BB_eq]
theorem dg0 (X:Nat):dg X 0=X % 4294967296:=by simp [dg,BB_eq]
theorem dg1 (X:Nat):dg X 1=X / 4294967296 % 4294967296:=by simp [dg,BB_eq]
theorem ln_one:ln 1=1:=ln_of_top (by rw [BB_eq];omega) (by rw [dg0];omega)
theorem ln_sum {X Y n m k:Nat} (hX:X < BB ^ n) (hY:Y < BB ^ m) (hn:n+1≤k) (hm:m+1≤k):ln (X+Y)≤k:=by
 refine xQ4 ?_
 have h1:=Nat.lt_of_lt_of_le hX (xX4 (show n≤k - 1 by omega))
 have h2:=Nat.lt_of_lt_of_le hY (xX4 (show m≤k - 1 by omega))
 have e:BB ^ k=BB ^ (k - 1)*BB:=by rw [←xQ7,Nat.sub_add_cancel (by omega)]
 rw [e,BB_eq]
 rw [BB_eq] at h1 h2
 omega
theorem ln_prod {X Y n m:Nat} (hX:X < BB ^ n) (hY:Y < BB ^ m):ln (X*Y)≤n+m:=by
 refine xQ4 ?_
 rw [Nat.pow_add]
 by_cases h:X=0
 ·subst h;simp;exact Nat.mul_pos (BBp n) (BBp m)
 ·exact Nat.mul_lt_mul_of_lt_of_le hX (Nat.le_of_lt hY) (Nat.lt_of_le_of_lt (Nat.zero_le _) hY)
end Go.Proofs.YtgfmaejhdbmkoaaGreat
