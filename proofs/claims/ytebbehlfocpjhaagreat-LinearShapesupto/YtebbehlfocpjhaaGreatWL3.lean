import Derived.Test.YtebbehlfocpjhaaGreatWL2
set_option linter.unusedSimpArgs false
namespace Go.Proofs.YtebbehlfocpjhaaGreat
open Go.RowKit
set_option linter.unusedVariables false
structure RatV.low (q : RatV) : Prop where
  hs : ng (sg q.s q.X) = q.s
  hn : q.n = ln q.X
  hc : q.c = ln q.X
  hm : q.m = ln q.Y
  he : q.e = ln q.Y
  pos : 0 < q.Y
  cop : Nat.gcd q.X q.Y = 1
theorem RatV.ok.later {w w' : World} {q : RatV} (h : q.ok w) (hb : Below w.heap.size w w') : q.ok w' := ⟨h.1.later hb, h.2.1, h.2.2.1, h.2.2.2.1.later hb, h.2.2.2.2.1, h.2.2.2.2.2⟩
theorem RatV.lies.later {w w' : World} {b off : Nat} {q : RatV} (h : q.lies w b off) (hb : Below w.heap.size w w') : q.lies w' b off := ⟨below_cell hb h.1, below_cell hb h.2.1, below_cell hb h.2.2⟩
theorem RatsAt.later {w w' : World} {a : Option Addr} {n : Nat} {q : Nat → RatV} (h : RatsAt w a n q) (hb : Below w.heap.size w w') : RatsAt w' a n q := fun hn => by
  obtain ⟨b, off, e, hl, hc⟩ := h hn
  exact ⟨b, off, e, Nat.lt_of_lt_of_le hl hb.size, fun i hi => (hc i hi).later hb⟩
end Go.Proofs.YtebbehlfocpjhaaGreat
