/-
  No cell of these rows narrows 'for every input' (looked for: loops, veiled, ifaces, maps, wideKeys, modest, calm, conditions, laid).
  DERIVED. THE GIVEN ROWS OF THIS SEAT. 2 by the template 'for every input the law returns true; each argument reads behind the call as it read before'; 0 by the template 'total and deterministic' (their statements: YtjofldgaefjapaaGreatTotals.lean).
  GIVEN WITH THE SEED: the statements are not yours to turn. If you find one false, say at which input.
  Laid BY PROGRAM, IN A SANDBOX (cutbox-rows.mjs): the forced cells as the released guide's own fill.sh prints them over the translation b46110d2dc8702f2… (all of the seat's roots in one cut). By AI agents, Wed Nov 11 2026. No macro, syntax, notation, axiom, sorry.
-/
import Derived.Test.YtjofldgaefjapaaGreatChecked
import GoSem.Claim
import GoSem.ClaimJoined
import GoSem.ClaimMapViews
import Derived.JoinedTies
import Derived.KernelRfl
namespace Go.Proofs.YtjofldgaefjapaaGreat
/- THE CELL 'sum', in the pinned program and in every row, IS THE sha256 OF THE DUMP (.gsa) THAT YtjofldgaefjapaaGreatProg.lean LOADS. Nothing in Lean hashes anything: it is a label: what it is worth is what the hold of that sum in a sandbox is worth. -/
noncomputable def Tryz.pinned : Pinned := { name := "ytjofldgaefjapaagreat", sum := "b46110d2dc8702f2d2f3c094208e542c5f60b983c863a87ab80979983751646b", checked := Tryz.checked }
namespace Rows
def none {H : Type} : Left H := { results := [], args := [] }

/-- 'fulcrumlaw04.ApproxMiddles': WHATEVER THE INPUT: true; the input reads as it did. -/
def approxMiddlesSpec : ChangeSpec := { name := "approxMiddles", fn := fun _ => fun
  | [d1, d2] => { results := [.lit (.bool true)], args := [d1, d2] }
  | _ => none }
def approxMiddlesRow : OpenClaim := { program := "ytjofldgaefjapaagreat", sum := "b46110d2dc8702f2d2f3c094208e542c5f60b983c863a87ab80979983751646b", func := "fulcrum/fulcrumlaw04.ApproxMiddles", spec := "approxMiddles", inPlace := ["math.Float64bits", "math.Float64frombits"], recurses := true, apart := false }
def ApproxMiddlesSaid : Prop := approxMiddlesRow.holds Tryz.pinned (OpenSpec.ofChange approxMiddlesSpec)

/-- ITS FALSE NEIGHBOUR: 'it returns false'. Refute it at one input. -/
def approxMiddlesWrong : ChangeSpec := { name := "approxMiddles", fn := fun _ => fun
  | [d1, d2] => { results := [.lit (.bool false)], args := [d1, d2] }
  | _ => none }
def ApproxMiddlesWrongFalsely : Prop := approxMiddlesRow.holds Tryz.pinned (OpenSpec.ofChange approxMiddlesWrong)

/-- 'fulcrumlaw04.ApproxSpans': WHATEVER THE INPUT: true; the input reads as it did. -/
def approxSpansSpec : ChangeSpec := { name := "approxSpans", fn := fun _ => fun
  | [d1, d2] => { results := [.lit (.bool true)], args := [d1, d2] }
  | _ => none }
def approxSpansRow : OpenClaim := { program := "ytjofldgaefjapaagreat", sum := "b46110d2dc8702f2d2f3c094208e542c5f60b983c863a87ab80979983751646b", func := "fulcrum/fulcrumlaw04.ApproxSpans", spec := "approxSpans", inPlace := ["math.Float64bits", "math.Float64frombits"], unfollowed := true, recurses := true, apart := false }
def ApproxSpansSaid : Prop := approxSpansRow.holds Tryz.pinned (OpenSpec.ofChange approxSpansSpec)

/-- ITS FALSE NEIGHBOUR: 'it returns false'. Refute it at one input. -/
def approxSpansWrong : ChangeSpec := { name := "approxSpans", fn := fun _ => fun
  | [d1, d2] => { results := [.lit (.bool false)], args := [d1, d2] }
  | _ => none }
def ApproxSpansWrongFalsely : Prop := approxSpansRow.holds Tryz.pinned (OpenSpec.ofChange approxSpansWrong)

/- THE SECOND FORM. 'bulk': how many values and letters a reading holds, each counted each time it is reached (what is shared counts as often as it is met; a slice's spare places count too). A statement '..UptoSaid' is the law's where the arguments, and the package variables that the reading takes, are together of bulk at most 1048576: NARROWER than '..Said'. Prove '..Said' where nothing that the law and all that it calls make is longer than what came in: it says more and counts as full. Else prove '..UptoSaid'. A law counts once. -/
mutual
def uptoBulk {H : Type} : DataW H → Nat
  | .lit (.string bytes) => bytes.length + 1
  | .lit _ => 1
  | .nil => 1
  | .ptr d => uptoBulk d + 1
  | .slice elems spare => uptoBulkAll elems + uptoBulkAll spare + 1
  | .agg parts => uptoBulkAll parts + 1
  | .iface _ d => uptoBulk d + 1
  | .map entries => uptoBulkEntries entries + 1
  | .held _ => 1
def uptoBulkAll {H : Type} : List (DataW H) → Nat
  | [] => 0
  | d :: r => uptoBulk d + uptoBulkAll r
def uptoBulkEntries {H : Type} : List (Lit × DataW H) → Nat
  | [] => 0
  | x :: r => uptoBulkEntry x + uptoBulkEntries r
def uptoBulkEntry {H : Type} : Lit × DataW H → Nat
  | (.string bytes, d) => bytes.length + uptoBulk d + 1
  | (_, d) => uptoBulk d + 1
 end
def uptoSmall : (H : Type) → List (DataW H) → Bool := fun _ ds => decide (uptoBulkAll ds ≤ 1048576)
def OpenSpec.upto (s : _root_.Go.ChangeSpec) : _root_.Go.OpenSpec := { _root_.Go.OpenSpec.ofChange s with cond := some uptoSmall }

/-- 'fulcrumlaw04.ApproxMiddles', WHERE WHAT IT READS IS OF BULK AT MOST 1048576: true; the input reads as it did. -/
def approxMiddlesUptoRow : OpenClaim := { program := "ytjofldgaefjapaagreat", sum := "b46110d2dc8702f2d2f3c094208e542c5f60b983c863a87ab80979983751646b", func := "fulcrum/fulcrumlaw04.ApproxMiddles", spec := "approxMiddles", inPlace := ["math.Float64bits", "math.Float64frombits"], recurses := true, apart := false, narrowed := true }
def ApproxMiddlesUptoSaid : Prop := approxMiddlesUptoRow.holds Tryz.pinned (OpenSpec.upto approxMiddlesSpec)

/-- 'fulcrumlaw04.ApproxSpans', WHERE WHAT IT READS IS OF BULK AT MOST 1048576: true; the input reads as it did. -/
def approxSpansUptoRow : OpenClaim := { program := "ytjofldgaefjapaagreat", sum := "b46110d2dc8702f2d2f3c094208e542c5f60b983c863a87ab80979983751646b", func := "fulcrum/fulcrumlaw04.ApproxSpans", spec := "approxSpans", inPlace := ["math.Float64bits", "math.Float64frombits"], unfollowed := true, recurses := true, apart := false, narrowed := true }
def ApproxSpansUptoSaid : Prop := approxSpansUptoRow.holds Tryz.pinned (OpenSpec.upto approxSpansSpec)

end Rows
end Go.Proofs.YtjofldgaefjapaaGreat
