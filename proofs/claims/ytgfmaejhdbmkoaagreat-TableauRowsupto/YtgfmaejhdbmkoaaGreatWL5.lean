import Derived.Test.YtgfmaejhdbmkoaaGreatWL4
set_option linter.unusedSimpArgs false
namespace Go.Proofs.YtgfmaejhdbmkoaaGreat
open Go.RowKit
set_option linter.unusedVariables false
def Eqv (l m:List (Int × Nat)):Prop:=lnum l*(lden m:Nat)=lnum m*(lden l:Nat)
theorem Eqv.refl (l:List (Int × Nat)):Eqv l l:=rfl
theorem Eqv.append {l m l' m':List (Int × Nat)} (h:Eqv l m) (k:Eqv l' m'):Eqv (l ++ l') (m ++ m'):=by
 unfold Eqv at *
 rw [lnum_append,lnum_append,lden_append,lden_append,Int.natCast_mul,Int.natCast_mul]
 generalize lnum l=a at *
 generalize lnum m=b at *
 generalize lnum l'=a' at *
 generalize lnum m'=b' at *
 generalize ((lden l:Nat):Int)=D at *
 generalize ((lden m:Nat):Int)=E at *
 generalize ((lden l':Nat):Int)=D' at *
 generalize ((lden m':Nat):Int)=E' at *
 have e1:(a*D'+a'*D)*(E*E')=(a*E)*(D'*E')+(a'*E')*(D*E):=by grind
 have e2:(b*E'+b'*E)*(D*D')=(b*D)*(D'*E')+(b'*D')*(D*E):=by grind
 rw [e1,e2,h,k]
theorem Eqv.low {l m:List (Int × Nat)} {Z:Int} {V:Nat} (h:Eqv l m) (hm:0 < lden m) (hL:Low (lnum l) (lden l:Nat) Z V):Low (lnum m) (lden m:Nat) Z V :=
 hL.congr (by omega) h
theorem Eqv.one {A:Int} {D:Nat} {Z:Int} {V:Nat} (h:Low A (D:Nat) Z V):Eqv [(Z,V)] [(A,D)]:=by
 show (Z*((1:Nat):Int)+0*_)*((D*1:Nat):Int)=(A*((1:Nat):Int)+0*_)*((V*1:Nat):Int)
 have:=h.eq
 simpa using this
def RatV.of (Z:Int) (V:Nat) (a b:Option Addr):RatV:=⟨ng Z,a,ln (am Z),ln (am Z),am Z,b,ln V,ln V,V⟩
theorem RatV.of_low {Z:Int} {V:Nat} {a b:Option Addr} (hV:0 < V) (hc:Nat.gcd (am Z) V=1):(RatV.of Z V a b).low:=⟨by show ng (sg (ng Z) (am Z))=ng Z;rw [sg_na],rfl,rfl,rfl,rfl,hV,hc⟩
end Go.Proofs.YtgfmaejhdbmkoaaGreat
