import Derived.Test.YtlklfkkbdcglbaaGreatWN4
set_option linter.unusedSimpArgs false
namespace Go.Proofs.YtlklfkkbdcglbaaGreat
open Go.ChangeShapes Go.WideShapes Go.ChangeAt Go.RowKit Go.Deep
set_option linter.unusedVariables false
def mos (v:Nat→Int) (f:Nat→RatV) (n:Nat):List Mo:=(List.range n).map fun i=>(v i,f i)
theorem mos_length (v:Nat→Int) (f:Nat→RatV) (n:Nat):(mos v f n).length=n:=by unfold mos;rw [List.length_map,List.length_range]
theorem mos_mem {v:Nat→Int} {f:Nat→RatV} {n:Nat} {p:Mo} (h:p∈mos v f n):∃ i,i < n∧p=(v i,f i):=by
 obtain ⟨i,hi,rfl⟩:=List.mem_map.1 h
 exact ⟨i,List.mem_range.1 hi,rfl⟩
theorem mos_at {w:World} {a:Option Addr} {n:Nat} {v:Nat→Int} {f:Nat→RatV} (h:FormAt w a n v f):FAt w a (mos v f n):=fun hn=>by
 have h0:0 < n:=by
  rcases Nat.eq_zero_or_pos n with e | e
  ·subst e;exact absurd rfl hn
  ·exact e
 obtain ⟨b,off,e,hl,hc⟩:=h h0
 refine ⟨b,off,e,hl,fun i p hi=>?_⟩
 unfold mos at hi
 rw [List.getElem?_map] at hi
 have hin:i < n:=by
  rcases Nat.lt_or_ge i n with h1 | h1
  ·exact h1
  ·rw [List.getElem?_eq_none (by rw [List.length_range];exact h1)] at hi;cases hi
 rw [List.getElem?_range hin] at hi
 obtain rfl:=Option.some.inj hi
 exact hc i hin
end Go.Proofs.YtlklfkkbdcglbaaGreat
