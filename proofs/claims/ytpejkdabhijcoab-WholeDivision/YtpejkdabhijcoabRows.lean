/-
  No cell of these rows narrows 'for every input' (looked for: loops, veiled, ifaces, maps, wideKeys, modest, calm, conditions, laid).
  DERIVED. THE GIVEN ROWS OF THIS SEAT. 5 by the template 'for every input the law returns true; each argument reads behind the call as it read before'; 0 by the template 'total and deterministic' (their statements: YtpejkdabhijcoabTotals.lean).
  GIVEN WITH THE SEED: the statements are not yours to turn. If you find one false, say at which input.
  Laid BY PROGRAM, IN A SANDBOX (cutbox-rows.mjs): the forced cells as the released guide's own fill.sh prints them over the translation 8eed8a2dc7dbe6de… (all of the seat's roots in one cut). By AI agents, Wed Nov 11 2026. No macro, syntax, notation, axiom, sorry.
-/
import Derived.Test.YtpejkdabhijcoabChecked
import GoSem.Claim
import GoSem.ClaimJoined
import GoSem.ClaimMapViews
import Derived.JoinedTies
import Derived.KernelRfl
namespace Go.Proofs.Ytpejkdabhijcoab
/- THE CELL 'sum', in the pinned program and in every row, IS THE sha256 OF THE DUMP (.gsa) THAT YtpejkdabhijcoabProg.lean LOADS. Nothing in Lean hashes anything: it is a label: what it is worth is what the hold of that sum in a sandbox is worth. -/
noncomputable def Try.pinned : Pinned := { name := "ytpejkdabhijcoab", sum := "8eed8a2dc7dbe6de0610fd8aaf5bdfb0336cb9ec9783e6bafb87750ea292e961", checked := Try.checked }
namespace Rows
def none {H : Type} : Left H := { results := [], args := [] }

/-- 'fulcrumlaw02.WholeRing': WHATEVER THE INPUT: true; the input reads as it did. -/
def wholeRingSpec : ChangeSpec := { name := "wholeRing", fn := fun _ => fun
  | [d1, d2, d3] => { results := [.lit (.bool true)], args := [d1, d2, d3] }
  | _ => none }
def wholeRingRow : OpenClaim := { program := "ytpejkdabhijcoab", sum := "8eed8a2dc7dbe6de0610fd8aaf5bdfb0336cb9ec9783e6bafb87750ea292e961", func := "fulcrum/fulcrumlaw02.WholeRing", spec := "wholeRing", recurses := true, apart := false }
def WholeRingSaid : Prop := wholeRingRow.holds Try.pinned (OpenSpec.ofChange wholeRingSpec)

/-- ITS FALSE NEIGHBOUR: 'it returns false'. Refute it at one input. -/
def wholeRingWrong : ChangeSpec := { name := "wholeRing", fn := fun _ => fun
  | [d1, d2, d3] => { results := [.lit (.bool false)], args := [d1, d2, d3] }
  | _ => none }
def WholeRingWrongFalsely : Prop := wholeRingRow.holds Try.pinned (OpenSpec.ofChange wholeRingWrong)

/-- 'fulcrumlaw02.WholeOrder': WHATEVER THE INPUT: true; the input reads as it did. -/
def wholeOrderSpec : ChangeSpec := { name := "wholeOrder", fn := fun _ => fun
  | [d1, d2, d3] => { results := [.lit (.bool true)], args := [d1, d2, d3] }
  | _ => none }
def wholeOrderRow : OpenClaim := { program := "ytpejkdabhijcoab", sum := "8eed8a2dc7dbe6de0610fd8aaf5bdfb0336cb9ec9783e6bafb87750ea292e961", func := "fulcrum/fulcrumlaw02.WholeOrder", spec := "wholeOrder", recurses := true, apart := false }
def WholeOrderSaid : Prop := wholeOrderRow.holds Try.pinned (OpenSpec.ofChange wholeOrderSpec)

/-- ITS FALSE NEIGHBOUR: 'it returns false'. Refute it at one input. -/
def wholeOrderWrong : ChangeSpec := { name := "wholeOrder", fn := fun _ => fun
  | [d1, d2, d3] => { results := [.lit (.bool false)], args := [d1, d2, d3] }
  | _ => none }
def WholeOrderWrongFalsely : Prop := wholeOrderRow.holds Try.pinned (OpenSpec.ofChange wholeOrderWrong)

/-- 'fulcrumlaw02.WholeDivision': WHATEVER THE INPUT: true; the input reads as it did. -/
def wholeDivisionSpec : ChangeSpec := { name := "wholeDivision", fn := fun _ => fun
  | [d1, d2] => { results := [.lit (.bool true)], args := [d1, d2] }
  | _ => none }
def wholeDivisionRow : OpenClaim := { program := "ytpejkdabhijcoab", sum := "8eed8a2dc7dbe6de0610fd8aaf5bdfb0336cb9ec9783e6bafb87750ea292e961", func := "fulcrum/fulcrumlaw02.WholeDivision", spec := "wholeDivision", recurses := true, apart := false }
def WholeDivisionSaid : Prop := wholeDivisionRow.holds Try.pinned (OpenSpec.ofChange wholeDivisionSpec)

/-- ITS FALSE NEIGHBOUR: 'it returns false'. Refute it at one input. -/
def wholeDivisionWrong : ChangeSpec := { name := "wholeDivision", fn := fun _ => fun
  | [d1, d2] => { results := [.lit (.bool false)], args := [d1, d2] }
  | _ => none }
def WholeDivisionWrongFalsely : Prop := wholeDivisionRow.holds Try.pinned (OpenSpec.ofChange wholeDivisionWrong)

/-- 'fulcrumlaw02.WholeBezout': WHATEVER THE INPUT: true; the input reads as it did. -/
def wholeBezoutSpec : ChangeSpec := { name := "wholeBezout", fn := fun _ => fun
  | [d1, d2] => { results := [.lit (.bool true)], args := [d1, d2] }
  | _ => none }
def wholeBezoutRow : OpenClaim := { program := "ytpejkdabhijcoab", sum := "8eed8a2dc7dbe6de0610fd8aaf5bdfb0336cb9ec9783e6bafb87750ea292e961", func := "fulcrum/fulcrumlaw02.WholeBezout", spec := "wholeBezout", recurses := true, apart := false }
def WholeBezoutSaid : Prop := wholeBezoutRow.holds Try.pinned (OpenSpec.ofChange wholeBezoutSpec)

/-- ITS FALSE NEIGHBOUR: 'it returns false'. Refute it at one input. -/
def wholeBezoutWrong : ChangeSpec := { name := "wholeBezout", fn := fun _ => fun
  | [d1, d2] => { results := [.lit (.bool false)], args := [d1, d2] }
  | _ => none }
def WholeBezoutWrongFalsely : Prop := wholeBezoutRow.holds Try.pinned (OpenSpec.ofChange wholeBezoutWrong)

/-- 'fulcrumlaw02.WholeInverse': WHATEVER THE INPUT: true; the input reads as it did. -/
def wholeInverseSpec : ChangeSpec := { name := "wholeInverse", fn := fun _ => fun
  | [d1, d2] => { results := [.lit (.bool true)], args := [d1, d2] }
  | _ => none }
def wholeInverseRow : OpenClaim := { program := "ytpejkdabhijcoab", sum := "8eed8a2dc7dbe6de0610fd8aaf5bdfb0336cb9ec9783e6bafb87750ea292e961", func := "fulcrum/fulcrumlaw02.WholeInverse", spec := "wholeInverse", recurses := true, apart := false }
def WholeInverseSaid : Prop := wholeInverseRow.holds Try.pinned (OpenSpec.ofChange wholeInverseSpec)

/-- ITS FALSE NEIGHBOUR: 'it returns false'. Refute it at one input. -/
def wholeInverseWrong : ChangeSpec := { name := "wholeInverse", fn := fun _ => fun
  | [d1, d2] => { results := [.lit (.bool false)], args := [d1, d2] }
  | _ => none }
def WholeInverseWrongFalsely : Prop := wholeInverseRow.holds Try.pinned (OpenSpec.ofChange wholeInverseWrong)

/- THE SECOND FORM. 'bulk': how many values and letters a reading holds, each counted each time it is reached (what is shared counts as often as it is met; a slice's spare places count too). A statement '..UptoSaid' is the law's where the arguments, and the package variables that the reading takes, are together of bulk at most 1048576: NARROWER than '..Said'. Prove '..Said' where nothing that the law and all that it calls make is longer than what came in: it says more and counts as full. Else prove '..UptoSaid'. A law counts once. -/
mutual
def uptoBulk {H : Type} : DataW H → Nat
  | .lit (.string bytes) => bytes.length + 1
  | .lit _ => 1
  | .nil => 1
  | .ptr d => uptoBulk d + 1
  | .slice elems spare => uptoBulkAll elems + uptoBulkAll spare + 1
  | .agg parts => uptoBulkAll parts + 1
  | .iface _ d => uptoBulk d + 1
  | .map entries => uptoBulkEntries entries + 1
  | .held _ => 1
def uptoBulkAll {H : Type} : List (DataW H) → Nat
  | [] => 0
  | d :: r => uptoBulk d + uptoBulkAll r
def uptoBulkEntries {H : Type} : List (Lit × DataW H) → Nat
  | [] => 0
  | x :: r => uptoBulkEntry x + uptoBulkEntries r
def uptoBulkEntry {H : Type} : Lit × DataW H → Nat
  | (.string bytes, d) => bytes.length + uptoBulk d + 1
  | (_, d) => uptoBulk d + 1
 end
def uptoSmall : (H : Type) → List (DataW H) → Bool := fun _ ds => decide (uptoBulkAll ds ≤ 1048576)
def OpenSpec.upto (s : _root_.Go.ChangeSpec) : _root_.Go.OpenSpec := { _root_.Go.OpenSpec.ofChange s with cond := some uptoSmall }

/-- 'fulcrumlaw02.WholeRing', WHERE WHAT IT READS IS OF BULK AT MOST 1048576: true; the input reads as it did. -/
def wholeRingUptoRow : OpenClaim := { program := "ytpejkdabhijcoab", sum := "8eed8a2dc7dbe6de0610fd8aaf5bdfb0336cb9ec9783e6bafb87750ea292e961", func := "fulcrum/fulcrumlaw02.WholeRing", spec := "wholeRing", recurses := true, apart := false, narrowed := true }
def WholeRingUptoSaid : Prop := wholeRingUptoRow.holds Try.pinned (OpenSpec.upto wholeRingSpec)

/-- 'fulcrumlaw02.WholeOrder', WHERE WHAT IT READS IS OF BULK AT MOST 1048576: true; the input reads as it did. -/
def wholeOrderUptoRow : OpenClaim := { program := "ytpejkdabhijcoab", sum := "8eed8a2dc7dbe6de0610fd8aaf5bdfb0336cb9ec9783e6bafb87750ea292e961", func := "fulcrum/fulcrumlaw02.WholeOrder", spec := "wholeOrder", recurses := true, apart := false, narrowed := true }
def WholeOrderUptoSaid : Prop := wholeOrderUptoRow.holds Try.pinned (OpenSpec.upto wholeOrderSpec)

/-- 'fulcrumlaw02.WholeDivision', WHERE WHAT IT READS IS OF BULK AT MOST 1048576: true; the input reads as it did. -/
def wholeDivisionUptoRow : OpenClaim := { program := "ytpejkdabhijcoab", sum := "8eed8a2dc7dbe6de0610fd8aaf5bdfb0336cb9ec9783e6bafb87750ea292e961", func := "fulcrum/fulcrumlaw02.WholeDivision", spec := "wholeDivision", recurses := true, apart := false, narrowed := true }
def WholeDivisionUptoSaid : Prop := wholeDivisionUptoRow.holds Try.pinned (OpenSpec.upto wholeDivisionSpec)

/-- 'fulcrumlaw02.WholeBezout', WHERE WHAT IT READS IS OF BULK AT MOST 1048576: true; the input reads as it did. -/
def wholeBezoutUptoRow : OpenClaim := { program := "ytpejkdabhijcoab", sum := "8eed8a2dc7dbe6de0610fd8aaf5bdfb0336cb9ec9783e6bafb87750ea292e961", func := "fulcrum/fulcrumlaw02.WholeBezout", spec := "wholeBezout", recurses := true, apart := false, narrowed := true }
def WholeBezoutUptoSaid : Prop := wholeBezoutUptoRow.holds Try.pinned (OpenSpec.upto wholeBezoutSpec)

/-- 'fulcrumlaw02.WholeInverse', WHERE WHAT IT READS IS OF BULK AT MOST 1048576: true; the input reads as it did. -/
def wholeInverseUptoRow : OpenClaim := { program := "ytpejkdabhijcoab", sum := "8eed8a2dc7dbe6de0610fd8aaf5bdfb0336cb9ec9783e6bafb87750ea292e961", func := "fulcrum/fulcrumlaw02.WholeInverse", spec := "wholeInverse", recurses := true, apart := false, narrowed := true }
def WholeInverseUptoSaid : Prop := wholeInverseUptoRow.holds Try.pinned (OpenSpec.upto wholeInverseSpec)

end Rows
end Go.Proofs.Ytpejkdabhijcoab
