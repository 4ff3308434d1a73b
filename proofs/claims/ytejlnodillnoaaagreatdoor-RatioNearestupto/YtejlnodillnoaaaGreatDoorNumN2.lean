import Derived.Test.YtejlnodillnoaaaGreatDoorNumZ
set_option linter.unusedSimpArgs false
namespace Go.Proofs.YtejlnodillnoaaaGreatDoor
set_option linter.unusedVariables false
structure Sb (a b c d:Int):Prop where
 a0:0≤a
 b0:0 < b
 c0:0 < c
 d0:0≤d
 lt:a*d < c*b
theorem Sb.more {a b c d:Int} (h:Sb a b c d):0 < c - a / b*d:=by
 have h1:a / b*b≤a:=Int.ediv_mul_le a (by have:=h.b0;omega)
 have h2:a / b*b*d≤a*d:=Int.mul_le_mul_of_nonneg_right h1 h.d0
 have h3:a / b*d*b < c*b:=by
  have e:a / b*d*b=a / b*b*d:=by grind
  have:=h.lt
  omega
 have h4:=Int.lt_of_mul_lt_mul_right h3 (Int.le_of_lt h.b0)
 omega
theorem Sb.next {a b c d:Int} (h:Sb a b c d) (hn:¬ (a / b+1)*d < c):Sb d (c - a / b*d) b (a % b):=by
 have hm:=Int.emod_nonneg a (by have:=h.b0;omega:b≠0)
 refine ⟨h.d0,h.more,h.b0,hm,?_⟩
 have e:=Int.emod_add_mul_ediv a b
 have hl:=h.lt
 generalize a / b=q at *
 generalize a % b=m at *
 subst e
 have e2:b*(c - q*d)=c*b - b*q*d:=by grind
 have e3:(m+b*q)*d=d*m+b*q*d:=by grind
 omega
structure Sbt (a b c d P Q:Int):Prop where
 p0:0 < P
 q0:0 < Q
 lo:a*Q < P*b
 hi:P*d < c*Q
 least:∀ P' Q',0 < Q'→a*Q' < P'*b→P'*d < c*Q'→P≤P'∧Q≤Q'
theorem Sb.end {a b c d:Int} (h:Sb a b c d) (hn:(a / b+1)*d < c):Sbt a b c d (a / b+1) 1:=by
 obtain ⟨h1,h2,h3,h4,h5⟩:=h
 have hq:0≤a / b:=Int.ediv_nonneg h1 (by omega)
 have hm:=Int.emod_lt_of_pos a h2
 have hm0:=Int.emod_nonneg a (by omega:b≠0)
 have e:=Int.emod_add_mul_ediv a b
 refine ⟨by omega,by omega,?_,by omega,fun P' Q' hQ hl _=>⟨?_,by omega⟩⟩
 ·have:(a / b+1)*b=b*(a / b)+b:=by grind
  omega
 ·have h6:a / b*b≤a*Q':=by
   have h7:a*1≤a*Q':=Int.mul_le_mul_of_nonneg_left (by omega) h1
   have h8:a / b*b=b*(a / b):=Int.mul_comm _ _
   omega
  have h9:=Int.lt_of_mul_lt_mul_right (show a / b*b < P'*b by omega) (by omega:0≤b)
  omega
theorem Sb.step {a b c d p q:Int} (h:Sb a b c d) (k:Sbt d (c - a / b*d) b (a % b) p q):Sbt a b c d (a / b*p+q) p:=by
 obtain ⟨h1,h2,h3,h4,h5⟩:=h
 have hq:0≤a / b:=Int.ediv_nonneg h1 (by omega)
 have hm0:=Int.emod_nonneg a (by omega:b≠0)
 have e:=Int.emod_add_mul_ediv a b
 obtain ⟨k1,k2,k3,k4,k5⟩:=k
 generalize a / b=f at *
 generalize a % b=m at *
 subst e
 have hfp:0≤f*p:=Int.mul_nonneg hq (by omega)
 refine ⟨by omega,k1,?_,?_,fun P' Q' hQ hl hh=>?_⟩
 ·have e1:(m+b*f)*p=p*m+b*f*p:=by grind
  have e2:(f*p+q)*b=b*q+b*f*p:=by grind
  omega
 ·have e1:(f*p+q)*d=d*q+f*d*p:=by grind
  have e2:p*(c - f*d)=c*p - f*d*p:=by grind
  omega
 ·have g1:f*Q' < P':=by
   have e1:(m+b*f)*Q'=m*Q'+f*Q'*b:=by grind
   have h6:0≤m*Q':=Int.mul_nonneg hm0 (by omega)
   exact Int.lt_of_mul_lt_mul_right (show f*Q'*b < P'*b by omega) (by omega:0≤b)
  have g2:=k5 Q' (P' - f*Q') (by omega) (by
   have e1:d*(P' - f*Q')=P'*d - f*d*Q':=by grind
   have e2:Q'*(c - f*d)=c*Q' - f*d*Q':=by grind
   omega) (by
   have e1:b*(P' - f*Q')=P'*b - b*f*Q':=by grind
   have e2:(m+b*f)*Q'=Q'*m+b*f*Q':=by grind
   omega)
  refine ⟨?_,g2.1⟩
  have h6:f*p≤f*Q':=Int.mul_le_mul_of_nonneg_left g2.1 hq
  omega
theorem Sbt.uniq {a b c d P Q P' Q':Int} (h:Sbt a b c d P Q) (k:Sbt a b c d P' Q'):P=P'∧Q=Q':=by
 have h1:=h.least P' Q' k.q0 k.lo k.hi
 have h2:=k.least P Q h.q0 h.lo h.hi
 omega
theorem Sbt.small {a b c d P Q:Int} (h:Sbt a b c d P Q) (s:Sb a b c d):P≤a+c∧Q≤b+d:=by
 obtain ⟨h1,h2,h3,h4,h5⟩:=s
 refine h.least (a+c) (b+d) (by omega) ?_ ?_
 ·have e1:a*(b+d)=a*b+a*d:=by grind
  have e2:(a+c)*b=a*b+c*b:=by grind
  omega
 ·have e1:(a+c)*d=a*d+c*d:=by grind
  have e2:c*(b+d)=c*b+c*d:=by grind
  omega
structure Si (a b c d P Q:Int):Prop where
 q0:0 < Q
 lo:a*Q < P*b
 hi:P*d < c*Q
 least:∀ P' Q',0 < Q'→a*Q' < P'*b→P'*d < c*Q'→Q < Q'∨Q=Q'∧P.natAbs≤P'.natAbs
theorem Si.uniq {a b c d P Q P' Q':Int} (h:Si a b c d P Q) (k:Si a b c d P' Q') (hb:0 < b) (hd:0 < d):P=P'∧Q=Q':=by
 have h1:=h.least P' Q' k.q0 k.lo k.hi
 have h2:=k.least P Q h.q0 h.lo h.hi
 obtain rfl:Q=Q':=by omega
 refine ⟨?_,rfl⟩
 have h3:P.natAbs=P'.natAbs:=by omega
 rcases Int.natAbs_eq_natAbs_iff.1 h3 with e | e
 ·exact e
 ·by_cases h0:P=0
  ·omega
  ·exfalso
   have hq:=h.q0
   have h4:=h.least 0 1 (by omega)
   have hneg:a < 0:=by
    apply Int.lt_of_mul_lt_mul_right (a:=Q) _ (by omega)
    have l1:=h.lo
    have l2:=k.lo
    rw [Int.zero_mul]
    rcases Int.lt_or_gt_of_ne h0 with hp | hp
    ·have:=Int.mul_neg_of_neg_of_pos hp hb
     omega
    ·have:=Int.mul_neg_of_neg_of_pos (show P' < 0 by omega) hb
     omega
   have hpos:0 < c:=by
    apply Int.lt_of_mul_lt_mul_right (a:=Q) _ (by omega)
    have l1:=h.hi
    have l2:=k.hi
    rw [Int.zero_mul]
    rcases Int.lt_or_gt_of_ne h0 with hp | hp
    ·have:=Int.mul_pos (show 0 < P' by omega) hd
     omega
    ·have:=Int.mul_pos hp hd
     omega
   have:=h4 (by omega) (by omega)
   omega
theorem Si.zero {a b c d:Int} (ha:a < 0) (hc:0 < c):Si a b c d 0 1:=⟨by omega,by omega,by omega,fun P' Q' hQ _ _=>by
 rcases Int.lt_or_eq_of_le (show (1:Int)≤Q' by omega) with h | h
 ·exact Or.inl h
 ·exact Or.inr ⟨h,by simp⟩⟩
end Go.Proofs.YtejlnodillnoaaaGreatDoor
