import Derived.Test.YtejlnodillnoaaaGreatDoorWBk
import Derived.Test.YtejlnodillnoaaaGreatDoorWI1
set_option linter.unusedSimpArgs false
namespace Go.Proofs.YtejlnodillnoaaaGreatDoor
open Go.RowKit
set_option linter.unusedVariables false
def Vb (base:Nat) (zs:Array Value) (t:TypeId) (W:World) (c:Nat):Prop:=Blk W c zs t∧base≤c
theorem Vb.later {base:Nat} {zs:Array Value} {t:TypeId} {W W':World} {c:Nat} (h:Vb base zs t W c) (hb:Below W.heap.size W W'):Vb base zs t W' c:=⟨h.1.later hb,h.2⟩
theorem Vb.new {base:Nat} {w W:World} (zs:Array Value) (t:TypeId) (h:Below base w W) (hb:base≤w.heap.size):Vb base zs t (W.alloc (.cells zs t)) W.heap.size:=⟨Blk.new W zs t,Nat.le_trans hb h.size⟩
end Go.Proofs.YtejlnodillnoaaaGreatDoor
