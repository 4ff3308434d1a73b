import Derived.Test.YtgfmaejhdbmkoaaGreatNum
set_option linter.unusedSimpArgs false
namespace Go.Proofs.YtgfmaejhdbmkoaaGreat
def mcy (X Y a k:Nat):Nat:=(X % BB ^ k+a*(Y % BB ^ k)) / BB ^ k
theorem mcy_zero (X Y a:Nat):mcy X Y a 0=0:=by simp [mcy,Nat.mod_one]
theorem mcy_le {a:Nat} (X Y k:Nat):mcy X Y a k≤a:=by
 unfold mcy
 have h1:X % BB ^ k < BB ^ k:=Nat.mod_lt _ (BBp k)
 have h2:Y % BB ^ k < BB ^ k:=Nat.mod_lt _ (BBp k)
 have h3:a*(Y % BB ^ k)≤a*(BB ^ k):=Nat.mul_le_mul_left _ (by omega)
 have:(X % BB ^ k+a*(Y % BB ^ k)) / BB ^ k < a+1:=(Nat.div_lt_iff_lt_mul (BBp k)).2 (by rw [Nat.add_mul];omega)
 omega
theorem mul_div_split (X Y a k:Nat):(X+a*Y) / BB ^ k=X / BB ^ k+a*(Y / BB ^ k)+mcy X Y a k:=by
 have h1:=xZ8 X k
 have h2:=xZ8 Y k
 have h3:X+a*Y=BB ^ k*(X / BB ^ k+a*(Y / BB ^ k))+(X % BB ^ k+a*(Y % BB ^ k)):=by
  have e:a*Y=a*(Y / BB ^ k*BB ^ k)+a*(Y % BB ^ k):=by rw [←Nat.mul_add,←h2]
  rw [e,Nat.mul_add,Nat.mul_comm (BB ^ k) (X / BB ^ k),Nat.mul_comm (BB ^ k) (a*(Y / BB ^ k)),Nat.mul_assoc]
  omega
 rw [h3,Nat.mul_add_div (BBp k),mcy]
theorem mul_dg (X Y a k:Nat):(dg Y k*a+dg X k+mcy X Y a k) % 4294967296=dg (X+a*Y) k:=by
 rw [←BB_eq,show dg (X+a*Y) k=((X+a*Y) / BB ^ k) % BB from rfl,mul_div_split]
 unfold dg
 generalize Y / BB ^ k=y
 generalize X / BB ^ k=x
 generalize mcy X Y a k=c
 have hy:=Nat.div_add_mod y BB
 have hx:=Nat.div_add_mod x BB
 have e:x+a*y+c=(y % BB*a+x % BB+c)+BB*(y / BB*a+x / BB):=by
  have e1:a*y=BB*(y / BB*a)+y % BB*a:=by
   rw [←Nat.mul_assoc,←Nat.add_mul,hy,Nat.mul_comm]
  rw [e1,Nat.mul_add];omega
 rw [e,Nat.add_mul_mod_self_left]
theorem mul_cy (X Y a k:Nat):(dg Y k*a+dg X k+mcy X Y a k) / 4294967296=mcy X Y a (k+1):=by
 rw [←BB_eq]
 have h:=Nat.div_add_mod (X % BB ^ k+a*(Y % BB ^ k)) (BB ^ k)
 rw [show (X % BB ^ k+a*(Y % BB ^ k)) / BB ^ k=mcy X Y a k from rfl] at h
 have hr:(X % BB ^ k+a*(Y % BB ^ k)) % BB ^ k < BB ^ k:=Nat.mod_lt _ (BBp k)
 have e:X % BB ^ (k+1)+a*(Y % BB ^ (k+1))=BB ^ k*(dg Y k*a+dg X k+mcy X Y a k)+(X % BB ^ k+a*(Y % BB ^ k)) % BB ^ k:=by
  rw [xJ9,xJ9,Nat.mul_add,Nat.mul_add,Nat.mul_add,Nat.mul_comm (BB ^ k) (dg X k),Nat.mul_comm (BB ^ k) (dg Y k*a),Nat.mul_comm (dg Y k) a,Nat.mul_assoc]
  omega
 rw [show mcy X Y a (k+1)=(X % BB ^ (k+1)+a*(Y % BB ^ (k+1))) / BB ^ (k+1) from rfl,e,xQ7,←Nat.div_div_eq_div_mul,Nat.mul_add_div (BBp k),Nat.div_eq_of_lt hr,Nat.add_zero]
theorem mcy_end {X Y a n:Nat} (hX:X < BB ^ n) (hY:Y < BB ^ n):mcy X Y a n=(X+a*Y) / BB ^ n:=by
 unfold mcy;rw [Nat.mod_eq_of_lt hX,Nat.mod_eq_of_lt hY]
theorem prod_lt {a b:Nat} (ha:a < 4294967296) (hb:b < 4294967296):a*b≤18446744065119617025:=by
 have:a*b≤4294967295*4294967295:=Nat.mul_le_mul (by omega) (by omega)
 omega
theorem prod_int {a b:Nat} (ha:a < 4294967296) (hb:b < 4294967296):0≤(a:Int)*(b:Int)∧(a:Int)*(b:Int)≤18446744065119617025:=by
 have:=prod_lt ha hb
 rw [←Int.natCast_mul]
 omega
def put (C i n D:Nat):Nat:=C / BB ^ (i+n)*BB ^ (i+n)+(D*BB ^ i+C % BB ^ i)
theorem put_low_lt {C i n D:Nat} (hD:D < BB ^ n):D*BB ^ i+C % BB ^ i < BB ^ (i+n):=by
 have h1:C % BB ^ i < BB ^ i:=Nat.mod_lt _ (BBp i)
 have h2:(D+1)*BB ^ i≤BB ^ n*BB ^ i:=Nat.mul_le_mul_right _ hD
 rw [←Nat.pow_add,Nat.add_comm n i,Nat.add_mul] at h2
 omega
theorem dg_put_lo {C i n D j:Nat} (hj:j < i):dg (put C i n D) j=dg C j:=by
 unfold put
 rw [dg_add_mul _ _ _ _ (by omega),dg_add_mul _ _ _ _ hj,dg_mod _ _ _ hj]
theorem dg_put_mid {C i n D j:Nat} (h1:i≤j) (h2:j < i+n):dg (put C i n D) j=dg D (j - i):=by
 unfold put
 rw [dg_add_mul _ _ _ _ h2,dg_hi _ _ _ _ h1 (Nat.mod_lt _ (BBp i))]
theorem dg_put_hi {C i n D j:Nat} (hD:D < BB ^ n) (h:i+n≤j):dg (put C i n D) j=dg C j:=by
 unfold put
 rw [dg_hi _ _ _ _ h (put_low_lt hD),dg_div,Nat.add_sub_cancel' h]
theorem put_lt {C i n D N:Nat} (hC:C < BB ^ N) (hD:D < BB ^ n) (h:i+n≤N):put C i n D < BB ^ N:=by
 unfold put
 have h1:C / BB ^ (i+n) < BB ^ (N - (i+n)):=(Nat.div_lt_iff_lt_mul (BBp _)).2 (by rw [←Nat.pow_add,Nat.sub_add_cancel h];exact hC)
 have h2:=put_low_lt (C:=C) (i:=i) hD
 have h3:(C / BB ^ (i+n)+1)*BB ^ (i+n)≤BB ^ (N - (i+n))*BB ^ (i+n):=Nat.mul_le_mul_right _ h1
 rw [←Nat.pow_add,Nat.sub_add_cancel h,Nat.add_mul] at h3
 omega
theorem put_zero_low {C n D:Nat} (hC:C < BB ^ n) (_hD:D < BB ^ n):put C 0 n D=D:=by
 unfold put;rw [Nat.zero_add,Nat.div_eq_of_lt hC];simp [Nat.mod_one]
theorem put_high {C i n D:Nat} (hC:C < BB ^ (i+n)):put C i n D=D*BB ^ i+C % BB ^ i:=by
 unfold put;rw [Nat.div_eq_of_lt hC];simp
end Go.Proofs.YtgfmaejhdbmkoaaGreat
