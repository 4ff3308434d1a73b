import Derived.Test.YtgfmaejhdbmkoaaGreatWQ1
set_option linter.unusedSimpArgs false
namespace Go.Proofs.YtgfmaejhdbmkoaaGreat
open Go.RowKit
set_option linter.unusedVariables false
theorem lowest_is (s:Bool) (ao:Option Addr) (n cap X:Nat) (ao2:Option Addr) (m cap2 Y V:Nat) (Z:Int) (w:World) (hc:n≤cap) (hm:n≤70368744177660) (hS:Seg w ao X n) (hc2:m≤cap2) (hm2:m≤70368744177660) (hS2:Seg w ao2 Y m) (hL:Low (sg s X) (Y:Int) Z V) :
  Calls Tryz.prog 75 #[.agg #[.bool s,.slice ao n cap,.bool false,.slice ao2 m cap2]] w fun e w'=>∃ p q,e=.returned (.agg #[.bool (ng Z),.slice p (ln (am Z)) (ln (am Z)),.slice q (ln V) (ln V)])∧New w w' p (am Z) (ln (am Z))∧New w w' q V (ln V):=by
 have hY:Y≠0:=by have:=hL.ne;omega
 obtain ⟨P,Q,hP,hQ⟩:=gcd_parts X Y
 have h:=low_made s false hY rfl hP hQ
 simp only [Bool.false_eq_true,if_false] at h
 obtain ⟨rfl,rfl⟩:=hL.uniq h rfl
 exact lowest_pos s ao n cap X ao2 m cap2 Y P V _ w hc hm hS hc2 hm2 hS2 hY hP hQ rfl
end Go.Proofs.YtgfmaejhdbmkoaaGreat
