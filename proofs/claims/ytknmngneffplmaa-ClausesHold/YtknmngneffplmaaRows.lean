/-
  No cell of these rows narrows 'for every input' (looked for: loops, veiled, ifaces, maps, wideKeys, modest, calm, conditions, laid).
  DERIVED. THE GIVEN ROWS OF THIS SEAT. 2 by the template 'for every input the law returns true; each argument reads behind the call as it read before'; 0 by the template 'total and deterministic' (their statements: YtknmngneffplmaaTotals.lean).
  GIVEN WITH THE SEED: the statements are not yours to turn. If you find one false, say at which input.
  Laid BY PROGRAM, IN A SANDBOX (cutbox-rows.mjs): the forced cells as the released guide's own fill.sh prints them over the translation f8e79b9fb0565304… (all of the seat's roots in one cut). By AI agents, Wed Nov 11 2026. No macro, syntax, notation, axiom, sorry.
-/
import Derived.Test.YtknmngneffplmaaChecked
import GoSem.Claim
import GoSem.ClaimJoined
import GoSem.ClaimMapViews
import Derived.JoinedTies
import Derived.KernelRfl
namespace Go.Proofs.Ytknmngneffplmaa
/- THE CELL 'sum', in the pinned program and in every row, IS THE sha256 OF THE DUMP (.gsa) THAT YtknmngneffplmaaProg.lean LOADS. Nothing in Lean hashes anything: it is a label: what it is worth is what the hold of that sum in a sandbox is worth. -/
noncomputable def Try.pinned : Pinned := { name := "ytknmngneffplmaa", sum := "f8e79b9fb056530412a2746d0ba584980b3c71d38e368f4723ce1cbb5ec9d481", checked := Try.checked }
namespace Rows
def none {H : Type} : Left H := { results := [], args := [] }

/-- 'fulcrumlaw18.ClausesReckon': WHATEVER THE INPUT: true; the input reads as it did. -/
def clausesReckonSpec : ChangeSpec := { name := "clausesReckon", fn := fun _ => fun
  | [d1, d2, d3] => { results := [.lit (.bool true)], args := [d1, d2, d3] }
  | _ => none }
def clausesReckonRow : OpenClaim := { program := "ytknmngneffplmaa", sum := "f8e79b9fb056530412a2746d0ba584980b3c71d38e368f4723ce1cbb5ec9d481", func := "fulcrum/fulcrumlaw18.ClausesReckon", spec := "clausesReckon", unfollowed := true, recurses := true, apart := false }
def ClausesReckonSaid : Prop := clausesReckonRow.holds Try.pinned (OpenSpec.ofChange clausesReckonSpec)

/-- ITS FALSE NEIGHBOUR: 'it returns false'. Refute it at one input. -/
def clausesReckonWrong : ChangeSpec := { name := "clausesReckon", fn := fun _ => fun
  | [d1, d2, d3] => { results := [.lit (.bool false)], args := [d1, d2, d3] }
  | _ => none }
def ClausesReckonWrongFalsely : Prop := clausesReckonRow.holds Try.pinned (OpenSpec.ofChange clausesReckonWrong)

/-- 'fulcrumlaw18.ClausesHold': WHATEVER THE INPUT: true; the input reads as it did. -/
def clausesHoldSpec : ChangeSpec := { name := "clausesHold", fn := fun _ => fun
  | [d1, d2] => { results := [.lit (.bool true)], args := [d1, d2] }
  | _ => none }
def clausesHoldRow : OpenClaim := { program := "ytknmngneffplmaa", sum := "f8e79b9fb056530412a2746d0ba584980b3c71d38e368f4723ce1cbb5ec9d481", func := "fulcrum/fulcrumlaw18.ClausesHold", spec := "clausesHold", unfollowed := true, recurses := true, apart := false }
def ClausesHoldSaid : Prop := clausesHoldRow.holds Try.pinned (OpenSpec.ofChange clausesHoldSpec)

/-- ITS FALSE NEIGHBOUR: 'it returns false'. Refute it at one input. -/
def clausesHoldWrong : ChangeSpec := { name := "clausesHold", fn := fun _ => fun
  | [d1, d2] => { results := [.lit (.bool false)], args := [d1, d2] }
  | _ => none }
def ClausesHoldWrongFalsely : Prop := clausesHoldRow.holds Try.pinned (OpenSpec.ofChange clausesHoldWrong)

/- THE SECOND FORM. 'bulk': how many values and letters a reading holds, each counted each time it is reached (what is shared counts as often as it is met; a slice's spare places count too). A statement '..UptoSaid' is the law's where the arguments, and the package variables that the reading takes, are together of bulk at most 1048576: NARROWER than '..Said'. Prove '..Said' where nothing that the law and all that it calls make is longer than what came in: it says more and counts as full. Else prove '..UptoSaid'. A law counts once. -/
mutual
def uptoBulk {H : Type} : DataW H → Nat
  | .lit (.string bytes) => bytes.length + 1
  | .lit _ => 1
  | .nil => 1
  | .ptr d => uptoBulk d + 1
  | .slice elems spare => uptoBulkAll elems + uptoBulkAll spare + 1
  | .agg parts => uptoBulkAll parts + 1
  | .iface _ d => uptoBulk d + 1
  | .map entries => uptoBulkEntries entries + 1
  | .held _ => 1
def uptoBulkAll {H : Type} : List (DataW H) → Nat
  | [] => 0
  | d :: r => uptoBulk d + uptoBulkAll r
def uptoBulkEntries {H : Type} : List (Lit × DataW H) → Nat
  | [] => 0
  | x :: r => uptoBulkEntry x + uptoBulkEntries r
def uptoBulkEntry {H : Type} : Lit × DataW H → Nat
  | (.string bytes, d) => bytes.length + uptoBulk d + 1
  | (_, d) => uptoBulk d + 1
 end
def uptoSmall : (H : Type) → List (DataW H) → Bool := fun _ ds => decide (uptoBulkAll ds ≤ 1048576)
def OpenSpec.upto (s : _root_.Go.ChangeSpec) : _root_.Go.OpenSpec := { _root_.Go.OpenSpec.ofChange s with cond := some uptoSmall }

/-- 'fulcrumlaw18.ClausesReckon', WHERE WHAT IT READS IS OF BULK AT MOST 1048576: true; the input reads as it did. -/
def clausesReckonUptoRow : OpenClaim := { program := "ytknmngneffplmaa", sum := "f8e79b9fb056530412a2746d0ba584980b3c71d38e368f4723ce1cbb5ec9d481", func := "fulcrum/fulcrumlaw18.ClausesReckon", spec := "clausesReckon", unfollowed := true, recurses := true, apart := false, narrowed := true }
def ClausesReckonUptoSaid : Prop := clausesReckonUptoRow.holds Try.pinned (OpenSpec.upto clausesReckonSpec)

/-- 'fulcrumlaw18.ClausesHold', WHERE WHAT IT READS IS OF BULK AT MOST 1048576: true; the input reads as it did. -/
def clausesHoldUptoRow : OpenClaim := { program := "ytknmngneffplmaa", sum := "f8e79b9fb056530412a2746d0ba584980b3c71d38e368f4723ce1cbb5ec9d481", func := "fulcrum/fulcrumlaw18.ClausesHold", spec := "clausesHold", unfollowed := true, recurses := true, apart := false, narrowed := true }
def ClausesHoldUptoSaid : Prop := clausesHoldUptoRow.holds Try.pinned (OpenSpec.upto clausesHoldSpec)

end Rows
end Go.Proofs.Ytknmngneffplmaa
