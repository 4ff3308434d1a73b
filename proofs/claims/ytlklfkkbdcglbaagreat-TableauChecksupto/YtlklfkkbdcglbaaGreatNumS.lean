import Derived.Test.YtlklfkkbdcglbaaGreatWN10
set_option linter.unusedSimpArgs false
namespace Go.Proofs.YtlklfkkbdcglbaaGreat
set_option linter.unusedVariables false
theorem mul_wt {w w':World} {C q:RatV} (hC:C.ok w) (hq:q.ok w'):wt (C.val*q.val)≤C.n+C.m+q.n+q.m+3:=by
 have h:=(low_mul C q).le
 have h1:=lt_prod (Nat.lt_of_le_of_lt (rn_am C.s C.X C.Y) hC.1.1) (Nat.lt_of_le_of_lt (rn_am q.s q.X q.Y) hq.1.1)
 have h2:am (((rd C.Y:Nat):Int)*((rd q.Y:Nat):Int)) < BB ^ ((C.m+1)+(q.m+1)):=lt_prod (by show rd _ < _;exact rd_lt hC.2.2.2.1.1) (by show rd _ < _;exact rd_lt hq.2.2.2.1.1)
 have k1:=ln_le_of_lt (Nat.lt_of_le_of_lt h.1 h1)
 have k2:=ln_le_of_lt (Nat.lt_of_le_of_lt h.2 h2)
 unfold wt
 omega
theorem bulkL_at:∀ (L:List Mo) (p:Mo),p∈L→p.2.n+p.2.m+2≤bulkL L
 | [],p,h=>absurd h (by simp)
 | q :: L,p,h=>by
  simp only [bulkL]
  rcases List.mem_cons.1 h with rfl | h
  ·omega
  ·have:=bulkL_at L p h
   omega
end Go.Proofs.YtlklfkkbdcglbaaGreat
