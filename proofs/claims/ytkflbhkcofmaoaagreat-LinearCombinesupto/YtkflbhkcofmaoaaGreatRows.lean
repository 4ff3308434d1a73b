/-
  No cell of these rows narrows 'for every input' (looked for: loops, veiled, ifaces, maps, wideKeys, modest, calm, conditions, laid).
  DERIVED. THE GIVEN ROWS OF THIS SEAT. 2 by the template 'for every input the law returns true; each argument reads behind the call as it read before'; 0 by the template 'total and deterministic' (their statements: YtkflbhkcofmaoaaGreatTotals.lean).
  GIVEN WITH THE SEED: the statements are not yours to turn. If you find one false, say at which input.
  Laid BY PROGRAM, IN A SANDBOX (cutbox-rows.mjs): the forced cells as the released guide's own fill.sh prints them over the translation 4055901f4f5b1fab… (all of the seat's roots in one cut). By AI agents, Wed Nov 11 2026. No macro, syntax, notation, axiom, sorry.
-/
import Derived.Test.YtkflbhkcofmaoaaGreatChecked
import GoSem.Claim
import GoSem.ClaimJoined
import GoSem.ClaimMapViews
import Derived.JoinedTies
import Derived.KernelRfl
namespace Go.Proofs.YtkflbhkcofmaoaaGreat
/- THE CELL 'sum', in the pinned program and in every row, IS THE sha256 OF THE DUMP (.gsa) THAT YtkflbhkcofmaoaaGreatProg.lean LOADS. Nothing in Lean hashes anything: it is a label: what it is worth is what the hold of that sum in a sandbox is worth. -/
noncomputable def Tryz.pinned : Pinned := { name := "ytkflbhkcofmaoaagreat", sum := "4055901f4f5b1fabf1c58f0d20cb6721ab577803d4ac616877db281c571cdf87", checked := Tryz.checked }
namespace Rows
def none {H : Type} : Left H := { results := [], args := [] }

/-- 'fulcrumlaw06.LinearCombines': WHATEVER THE INPUT: true; the input reads as it did. -/
def linearCombinesSpec : ChangeSpec := { name := "linearCombines", fn := fun _ => fun
  | [d] => { results := [.lit (.bool true)], args := [d] }
  | _ => none }
def linearCombinesRow : OpenClaim := { program := "ytkflbhkcofmaoaagreat", sum := "4055901f4f5b1fabf1c58f0d20cb6721ab577803d4ac616877db281c571cdf87", func := "fulcrum/fulcrumlaw06.LinearCombines", spec := "linearCombines", unfollowed := true, recurses := true, apart := false }
def LinearCombinesSaid : Prop := linearCombinesRow.holds Tryz.pinned (OpenSpec.ofChange linearCombinesSpec)

/-- ITS FALSE NEIGHBOUR: 'it returns false'. Refute it at one input. -/
def linearCombinesWrong : ChangeSpec := { name := "linearCombines", fn := fun _ => fun
  | [d] => { results := [.lit (.bool false)], args := [d] }
  | _ => none }
def LinearCombinesWrongFalsely : Prop := linearCombinesRow.holds Tryz.pinned (OpenSpec.ofChange linearCombinesWrong)

/-- 'fulcrumlaw06.LinearPut': WHATEVER THE INPUT: true; the input reads as it did. -/
def linearPutSpec : ChangeSpec := { name := "linearPut", fn := fun _ => fun
  | [d] => { results := [.lit (.bool true)], args := [d] }
  | _ => none }
def linearPutRow : OpenClaim := { program := "ytkflbhkcofmaoaagreat", sum := "4055901f4f5b1fabf1c58f0d20cb6721ab577803d4ac616877db281c571cdf87", func := "fulcrum/fulcrumlaw06.LinearPut", spec := "linearPut", unfollowed := true, recurses := true, apart := false }
def LinearPutSaid : Prop := linearPutRow.holds Tryz.pinned (OpenSpec.ofChange linearPutSpec)

/-- ITS FALSE NEIGHBOUR: 'it returns false'. Refute it at one input. -/
def linearPutWrong : ChangeSpec := { name := "linearPut", fn := fun _ => fun
  | [d] => { results := [.lit (.bool false)], args := [d] }
  | _ => none }
def LinearPutWrongFalsely : Prop := linearPutRow.holds Tryz.pinned (OpenSpec.ofChange linearPutWrong)

/- THE SECOND FORM. 'bulk': how many values and letters a reading holds, each counted each time it is reached (what is shared counts as often as it is met; a slice's spare places count too). A statement '..UptoSaid' is the law's where the arguments, and the package variables that the reading takes, are together of bulk at most 1048576: NARROWER than '..Said'. Prove '..Said' where nothing that the law and all that it calls make is longer than what came in: it says more and counts as full. Else prove '..UptoSaid'. A law counts once. -/
mutual
def uptoBulk {H : Type} : DataW H → Nat
  | .lit (.string bytes) => bytes.length + 1
  | .lit _ => 1
  | .nil => 1
  | .ptr d => uptoBulk d + 1
  | .slice elems spare => uptoBulkAll elems + uptoBulkAll spare + 1
  | .agg parts => uptoBulkAll parts + 1
  | .iface _ d => uptoBulk d + 1
  | .map entries => uptoBulkEntries entries + 1
  | .held _ => 1
def uptoBulkAll {H : Type} : List (DataW H) → Nat
  | [] => 0
  | d :: r => uptoBulk d + uptoBulkAll r
def uptoBulkEntries {H : Type} : List (Lit × DataW H) → Nat
  | [] => 0
  | x :: r => uptoBulkEntry x + uptoBulkEntries r
def uptoBulkEntry {H : Type} : Lit × DataW H → Nat
  | (.string bytes, d) => bytes.length + uptoBulk d + 1
  | (_, d) => uptoBulk d + 1
 end
def uptoSmall : (H : Type) → List (DataW H) → Bool := fun _ ds => decide (uptoBulkAll ds ≤ 1048576)
def OpenSpec.upto (s : _root_.Go.ChangeSpec) : _root_.Go.OpenSpec := { _root_.Go.OpenSpec.ofChange s with cond := some uptoSmall }

/-- 'fulcrumlaw06.LinearCombines', WHERE WHAT IT READS IS OF BULK AT MOST 1048576: true; the input reads as it did. -/
def linearCombinesUptoRow : OpenClaim := { program := "ytkflbhkcofmaoaagreat", sum := "4055901f4f5b1fabf1c58f0d20cb6721ab577803d4ac616877db281c571cdf87", func := "fulcrum/fulcrumlaw06.LinearCombines", spec := "linearCombines", unfollowed := true, recurses := true, apart := false, narrowed := true }
def LinearCombinesUptoSaid : Prop := linearCombinesUptoRow.holds Tryz.pinned (OpenSpec.upto linearCombinesSpec)

/-- 'fulcrumlaw06.LinearPut', WHERE WHAT IT READS IS OF BULK AT MOST 1048576: true; the input reads as it did. -/
def linearPutUptoRow : OpenClaim := { program := "ytkflbhkcofmaoaagreat", sum := "4055901f4f5b1fabf1c58f0d20cb6721ab577803d4ac616877db281c571cdf87", func := "fulcrum/fulcrumlaw06.LinearPut", spec := "linearPut", unfollowed := true, recurses := true, apart := false, narrowed := true }
def LinearPutUptoSaid : Prop := linearPutUptoRow.holds Tryz.pinned (OpenSpec.upto linearPutSpec)

end Rows
end Go.Proofs.YtkflbhkcofmaoaaGreat
