import Derived.Test.YtgfmaejhdbmkoaaGreatNumI
set_option linter.unusedSimpArgs false
namespace Go.Proofs.YtgfmaejhdbmkoaaGreat
set_option linter.unusedVariables false
def rn (s:Bool) (X Y:Nat):Int:=if Y=0 then 0 else sg s X
def rd (Y:Nat):Nat:=if Y=0 then 1 else Y
theorem rd_pos (Y:Nat):0 < rd Y:=by unfold rd;split <;> omega
theorem rd_ne (Y:Nat):((rd Y:Nat):Int)≠0:=by have:=rd_pos Y;omega
theorem rn_of {s:Bool} {X Y:Nat} (h:Y≠0):rn s X Y=sg s X:=if_neg h
theorem rd_of {Y:Nat} (h:Y≠0):rd Y=Y:=if_neg h
theorem rn_nf {Z:Int} {V:Nat} (h:0 < V):rn (ng Z) (am Z) V=Z:=by rw [rn_of (by omega),sg_na]
theorem rd_nf {V:Nat} (h:0 < V):rd V=V:=rd_of (by omega)
theorem rn_am (s:Bool) (X Y:Nat):am (rn s X Y)≤X:=by
 unfold rn;split
 ·simp [am]
 ·rw [am_sg];exact Nat.le_refl _
theorem am_mul (a b:Int):am (a*b)=am a*am b:=Int.natAbs_mul a b
theorem am_add (a b:Int):am (a+b)≤am a+am b:=by unfold am;omega
theorem am_neg (a:Int):am (-a)=am a:=Int.natAbs_neg a
structure Low (A D Z:Int) (V:Nat):Prop where
 ne:D≠0
 pos:0 < V
 eq:Z*D=A*V
 cop:Nat.gcd (am Z) V=1
theorem mul_cancel {a b c:Int} (h:c≠0) (e:a*c=b*c):a=b:=Int.eq_of_mul_eq_mul_right h e
theorem Low.congr {A D A' D' Z:Int} {V:Nat} (h:Low A D Z V) (hD:D'≠0) (e:A*D'=A'*D):Low A' D' Z V:=by
 refine ⟨hD,h.pos,mul_cancel h.ne ?_,h.cop⟩
 have h1:=h.eq
 grind
theorem Low.cross {A D Z A' D' Z':Int} {V V':Nat} (h:Low A D Z V) (k:Low A' D' Z' V') (e:A*D'=A'*D):Z*V'=Z'*V:=by
 refine mul_cancel h.ne (mul_cancel k.ne ?_)
 have h1:=h.eq
 have h2:=k.eq
 grind
theorem cop_uniq {a b c d:Nat} (h1:Nat.gcd a b=1) (h2:Nat.gcd c d=1) (hb:0 < b) (hd:0 < d) (e:a*d=c*b):b=d∧a=c:=by
 have k1:b ∣ d:=Nat.Coprime.dvd_of_dvd_mul_left (k:=b) (m:=a) (n:=d) (by rw [Nat.Coprime,Nat.gcd_comm];exact h1) ⟨c,by rw [e,Nat.mul_comm]⟩
 have k2:d ∣ b:=Nat.Coprime.dvd_of_dvd_mul_left (k:=d) (m:=c) (n:=b) (by rw [Nat.Coprime,Nat.gcd_comm];exact h2) ⟨a,by rw [←e,Nat.mul_comm]⟩
 have hbd:=Nat.dvd_antisymm k1 k2
 subst hbd
 exact ⟨rfl,Nat.eq_of_mul_eq_mul_right hb e⟩
theorem cross_uniq {Z Z':Int} {V V':Nat} (h1:Nat.gcd (am Z) V=1) (h2:Nat.gcd (am Z') V'=1) (hV:0 < V) (hV':0 < V') (e:Z*V'=Z'*V):Z=Z'∧V=V':=by
 have e2:am Z*V'=am Z'*V:=by
  have:=congrArg am e
  rwa [am_mul,am_mul,am_nat,am_nat] at this
 obtain ⟨k1,k2⟩:=cop_uniq h1 h2 hV hV' e2
 subst k1
 exact ⟨mul_cancel (by omega) e,rfl⟩
theorem Low.uniq {A D Z A' D' Z':Int} {V V':Nat} (h:Low A D Z V) (k:Low A' D' Z' V') (e:A*D'=A'*D):Z=Z'∧V=V' :=
 cross_uniq h.cop k.cop h.pos k.pos (h.cross k e)
theorem low_made (s t:Bool) {X Y P Q g:Nat} (hY:Y≠0) (hg:g=Nat.gcd X Y) (hP:X=P*g) (hQ:Y=Q*g):Low (sg s X) (sg t Y) (if t then -(sg s P) else sg s P) Q:=by
 have hg0:0 < g:=by rw [hg];exact Nat.gcd_pos_of_pos_right _ (by omega)
 have hQ0:0 < Q:=by
  rcases Nat.eq_zero_or_pos Q with e | e
  ·rw [e,Nat.zero_mul] at hQ;omega
  ·exact e
 refine ⟨fun e=>hY (sg_eq_zero.1 e),hQ0,?_,?_⟩
 ·subst hP hQ
  cases s <;> cases t <;> simp only [sg,if_true,Bool.false_eq_true,if_false,Int.natCast_mul] <;> grind
 ·have h1:am (if t then -(sg s P) else sg s P)=P:=by
   cases t
   ·simp only [Bool.false_eq_true,if_false];exact am_sg _ _
   ·simp only [if_true];rw [am_neg];exact am_sg _ _
  rw [h1]
  have h2:Nat.gcd P Q*g=g:=by
   rw [←Nat.gcd_mul_right,←hP,←hQ,←hg]
  exact Nat.eq_of_mul_eq_mul_right hg0 (by rw [h2,Nat.one_mul])
theorem gcd_parts (X Y:Nat):∃ P Q,X=P*Nat.gcd X Y∧Y=Q*Nat.gcd X Y:=by
 obtain ⟨p,hp⟩:=Nat.gcd_dvd_left X Y
 obtain ⟨q,hq⟩:=Nat.gcd_dvd_right X Y
 exact ⟨p,q,by rw [Nat.mul_comm];exact hp,by rw [Nat.mul_comm];exact hq⟩
theorem low_ex (A D:Int) (hD:D≠0):∃ Z V,Low A D Z V:=by
 obtain ⟨P,Q,hP,hQ⟩:=gcd_parts (am A) (am D)
 have:=low_made (ng A) (ng D) (fun e=>hD (am_eq_zero.1 e)) rfl hP hQ
 rw [sg_na,sg_na] at this
 exact ⟨_,_,this⟩
theorem Low.le {A D Z:Int} {V:Nat} (h:Low A D Z V):am Z≤am A∧V≤am D:=by
 have e2:am Z*am D=am A*V:=by
  have:=congrArg am h.eq
  rwa [am_mul,am_mul,am_nat] at this
 have hD:0 < am D:=Nat.pos_of_ne_zero fun e=>h.ne (am_eq_zero.1 e)
 have k1:V ∣ am D:=Nat.Coprime.dvd_of_dvd_mul_left (k:=V) (m:=am Z) (n:=am D) (by rw [Nat.Coprime,Nat.gcd_comm];exact h.cop) ⟨am A,by rw [e2,Nat.mul_comm]⟩
 have k2:V≤am D:=Nat.le_of_dvd hD k1
 refine ⟨?_,k2⟩
 refine Nat.le_of_mul_le_mul_right (c:=V) ?_ h.pos
 rw [←e2]
 exact Nat.mul_le_mul_left _ k2
theorem Low.self {Z:Int} {V:Nat} (hV:0 < V) (hc:Nat.gcd (am Z) V=1):Low Z V Z V:=⟨by omega,hV,rfl,hc⟩
theorem Low.zero {D Z:Int} {V:Nat} (h:Low 0 D Z V):Z=0∧V=1:=by
 have e:=h.eq
 rw [Int.zero_mul] at e
 have hZ:Z=0:=by
  rcases Int.mul_eq_zero.1 e with k | k
  ·exact k
  ·exact absurd k h.ne
 subst hZ
 have:=h.cop
 simp [am] at this
 exact ⟨rfl,this⟩
theorem sgn_mul_pos {a b:Int} (h:0 < b):sgn (a*b)=sgn a:=by
 rcases Int.lt_trichotomy a 0 with k | k | k
 ·rw [sgn_neg k,sgn_neg (Int.mul_neg_of_neg_of_pos k h)]
 ·subst k;rw [Int.zero_mul]
 ·rw [sgn_pos k,sgn_pos (Int.mul_pos k h)]
theorem Low.sgn {A D Z:Int} {V:Nat} (h:Low A D Z V) (hD:0 < D):sgn Z=Proofs.YtgfmaejhdbmkoaaGreat.sgn A:=by
 have h1:=sgn_mul_pos (a:=Z) hD
 have h2:=sgn_mul_pos (a:=A) (b:=(V:Int)) (by have:=h.pos;omega)
 rw [←h1,h.eq,h2]
end Go.Proofs.YtgfmaejhdbmkoaaGreat
