import Derived.Test.YtgfmaejhdbmkoaaGreatNumD
set_option linter.unusedSimpArgs false
namespace Go.Proofs.YtgfmaejhdbmkoaaGreat
set_option linter.unusedVariables false
def sg (s:Bool) (X:Nat):Int:=if s then -(X:Int) else (X:Int)
def ng (Z:Int):Bool:=decide (Z < 0)
def am (Z:Int):Nat:=Z.natAbs
def sgn (Z:Int):Int:=if Z < 0 then -1 else if Z=0 then 0 else 1
def sd (s:Bool):Int:=if s then -1 else 1
theorem am_sg (s:Bool) (X:Nat):am (sg s X)=X:=by cases s <;> simp [am,sg]
theorem ng_sg (s:Bool) (X:Nat):ng (sg s X)=(s && decide (0 < ln X)):=by
 by_cases h:X=0
 ·subst h;cases s <;> simp [ng,sg,xX7]
 ·have:0 < ln X:=Nat.pos_of_ne_zero fun e=>h (ln_eq_zero.1 e)
  cases s <;> simp [ng,sg,this] <;> omega
theorem sg_na (Z:Int):sg (ng Z) (am Z)=Z:=by
 unfold sg ng am;by_cases h:Z < 0 <;> simp [h] <;> omega
theorem am_nat (X:Nat):am (X:Int)=X:=by simp [am]
theorem ng_nat (X:Nat):ng (X:Int)=false:=by simp [ng]
theorem am_eq_zero {Z:Int}:am Z=0↔Z=0:=by unfold am;omega
theorem ng_true {Z:Int}:ng Z=true↔Z < 0:=by simp [ng]
theorem ng_false {Z:Int}:ng Z=false↔0≤Z:=by simp [ng]
theorem sg_mul (s t:Bool) (X Y:Nat):sg s X*sg t Y=sg (s != t) (X*Y):=by
 cases s <;> cases t <;> simp [sg,Int.mul_neg,Int.neg_mul]
theorem sg_add (s:Bool) (X Y:Nat):sg s X+sg s Y=sg s (X+Y):=by cases s <;> simp [sg] <;> omega
theorem sg_sub {s t:Bool} {X Y:Nat} (h:s≠t) (hle:Y≤X):sg s X+sg t Y=sg s (X - Y):=by
 cases s <;> cases t <;> simp [sg] at h ⊢ <;> omega
theorem sg_sub' {s t:Bool} {X Y:Nat} (h:s≠t) (hle:X≤Y):sg s X+sg t Y=sg t (Y - X):=by
 rw [Int.add_comm];exact sg_sub (Ne.symm h) hle
theorem sg_zero (s:Bool):sg s 0=0:=by cases s <;> rfl
theorem sg_eq_zero {s:Bool} {X:Nat}:sg s X=0↔X=0:=by cases s <;> simp [sg]
theorem sgn_sg {s:Bool} {X:Nat} (h:X≠0):sgn (sg s X)=sd s:=by
 cases s <;> simp only [sgn,sg,sd,if_true,Bool.false_eq_true,if_false]
 ·rw [if_neg (by omega),if_neg (by omega)]
 ·rw [if_pos (by omega)]
theorem sgn_zero:sgn 0=0:=rfl
theorem sgn_pos {Z:Int} (h:0 < Z):sgn Z=1:=by unfold sgn;rw [if_neg (by omega),if_neg (by omega)]
theorem sgn_neg {Z:Int} (h:Z < 0):sgn Z = -1:=by unfold sgn;rw [if_pos h]
theorem sd_range (s:Bool):sd s = -1∨sd s=1:=by cases s <;> simp [sd]
end Go.Proofs.YtgfmaejhdbmkoaaGreat
