/-
  No cell of these rows narrows 'for every input' (looked for: loops, veiled, ifaces, maps, wideKeys, modest, calm, conditions, laid).
  DERIVED. THE GIVEN ROWS OF THIS SEAT. 5 by the template 'for every input the law returns true; each argument reads behind the call as it read before'; 0 by the template 'total and deterministic' (their statements: YtbcbgglhhfdbcabTotals.lean).
  GIVEN WITH THE SEED: the statements are not yours to turn. If you find one false, say at which input.
  Laid BY PROGRAM, IN A SANDBOX (cutbox-rows.mjs): the forced cells as the released guide's own fill.sh prints them over the translation 0e1eadb8c03fdfbd… (all of the seat's roots in one cut). By AI agents, Wed Nov 11 2026. No macro, syntax, notation, axiom, sorry.
-/
import Derived.Test.YtbcbgglhhfdbcabChecked
import GoSem.Claim
import GoSem.ClaimJoined
import GoSem.ClaimMapViews
import Derived.JoinedTies
import Derived.KernelRfl
namespace Go.Proofs.Ytbcbgglhhfdbcab
/- THE CELL 'sum', in the pinned program and in every row, IS THE sha256 OF THE DUMP (.gsa) THAT YtbcbgglhhfdbcabProg.lean LOADS. Nothing in Lean hashes anything: it is a label: what it is worth is what the hold of that sum in a sandbox is worth. -/
noncomputable def Try.pinned : Pinned := { name := "ytbcbgglhhfdbcab", sum := "0e1eadb8c03fdfbd7653ffc8a827608c86c181fcc41fd149af330eb003febda2", checked := Try.checked }
namespace Rows
def none {H : Type} : Left H := { results := [], args := [] }

/-- 'fulcrumlaw21.AnalyseFinals': WHATEVER THE INPUT: true; the input reads as it did. -/
def analyseFinalsSpec : ChangeSpec := { name := "analyseFinals", fn := fun _ => fun
  | [d1, d2] => { results := [.lit (.bool true)], args := [d1, d2] }
  | _ => none }
def analyseFinalsRow : OpenClaim := { program := "ytbcbgglhhfdbcab", sum := "0e1eadb8c03fdfbd7653ffc8a827608c86c181fcc41fd149af330eb003febda2", func := "fulcrum/fulcrumlaw21.AnalyseFinals", spec := "analyseFinals", unfollowed := true, recurses := true, apart := false }
def AnalyseFinalsSaid : Prop := analyseFinalsRow.holds Try.pinned (OpenSpec.ofChange analyseFinalsSpec)

/-- ITS FALSE NEIGHBOUR: 'it returns false'. Refute it at one input. -/
def analyseFinalsWrong : ChangeSpec := { name := "analyseFinals", fn := fun _ => fun
  | [d1, d2] => { results := [.lit (.bool false)], args := [d1, d2] }
  | _ => none }
def AnalyseFinalsWrongFalsely : Prop := analyseFinalsRow.holds Try.pinned (OpenSpec.ofChange analyseFinalsWrong)

/-- 'fulcrumlaw21.AnalyseTeaches': WHATEVER THE INPUT: true; the input reads as it did. -/
def analyseTeachesSpec : ChangeSpec := { name := "analyseTeaches", fn := fun _ => fun
  | [d1, d2] => { results := [.lit (.bool true)], args := [d1, d2] }
  | _ => none }
def analyseTeachesRow : OpenClaim := { program := "ytbcbgglhhfdbcab", sum := "0e1eadb8c03fdfbd7653ffc8a827608c86c181fcc41fd149af330eb003febda2", func := "fulcrum/fulcrumlaw21.AnalyseTeaches", spec := "analyseTeaches", unfollowed := true, recurses := true, apart := false }
def AnalyseTeachesSaid : Prop := analyseTeachesRow.holds Try.pinned (OpenSpec.ofChange analyseTeachesSpec)

/-- ITS FALSE NEIGHBOUR: 'it returns false'. Refute it at one input. -/
def analyseTeachesWrong : ChangeSpec := { name := "analyseTeaches", fn := fun _ => fun
  | [d1, d2] => { results := [.lit (.bool false)], args := [d1, d2] }
  | _ => none }
def AnalyseTeachesWrongFalsely : Prop := analyseTeachesRow.holds Try.pinned (OpenSpec.ofChange analyseTeachesWrong)

/-- 'fulcrumlaw21.AnalyseImplies': WHATEVER THE INPUT: true; the input reads as it did. -/
def analyseImpliesSpec : ChangeSpec := { name := "analyseImplies", fn := fun _ => fun
  | [d1, d2, d3] => { results := [.lit (.bool true)], args := [d1, d2, d3] }
  | _ => none }
def analyseImpliesRow : OpenClaim := { program := "ytbcbgglhhfdbcab", sum := "0e1eadb8c03fdfbd7653ffc8a827608c86c181fcc41fd149af330eb003febda2", func := "fulcrum/fulcrumlaw21.AnalyseImplies", spec := "analyseImplies", unfollowed := true, recurses := true, apart := false }
def AnalyseImpliesSaid : Prop := analyseImpliesRow.holds Try.pinned (OpenSpec.ofChange analyseImpliesSpec)

/-- ITS FALSE NEIGHBOUR: 'it returns false'. Refute it at one input. -/
def analyseImpliesWrong : ChangeSpec := { name := "analyseImplies", fn := fun _ => fun
  | [d1, d2, d3] => { results := [.lit (.bool false)], args := [d1, d2, d3] }
  | _ => none }
def AnalyseImpliesWrongFalsely : Prop := analyseImpliesRow.holds Try.pinned (OpenSpec.ofChange analyseImpliesWrong)

/-- 'fulcrumlaw21.AnalyseLeans': WHATEVER THE INPUT: true; the input reads as it did. -/
def analyseLeansSpec : ChangeSpec := { name := "analyseLeans", fn := fun _ => fun
  | [d1, d2, d3] => { results := [.lit (.bool true)], args := [d1, d2, d3] }
  | _ => none }
def analyseLeansRow : OpenClaim := { program := "ytbcbgglhhfdbcab", sum := "0e1eadb8c03fdfbd7653ffc8a827608c86c181fcc41fd149af330eb003febda2", func := "fulcrum/fulcrumlaw21.AnalyseLeans", spec := "analyseLeans", unfollowed := true, recurses := true, apart := false }
def AnalyseLeansSaid : Prop := analyseLeansRow.holds Try.pinned (OpenSpec.ofChange analyseLeansSpec)

/-- ITS FALSE NEIGHBOUR: 'it returns false'. Refute it at one input. -/
def analyseLeansWrong : ChangeSpec := { name := "analyseLeans", fn := fun _ => fun
  | [d1, d2, d3] => { results := [.lit (.bool false)], args := [d1, d2, d3] }
  | _ => none }
def AnalyseLeansWrongFalsely : Prop := analyseLeansRow.holds Try.pinned (OpenSpec.ofChange analyseLeansWrong)

/-- 'fulcrumlaw21.AnalyseOwn': WHATEVER THE INPUT: true; the input reads as it did. -/
def analyseOwnSpec : ChangeSpec := { name := "analyseOwn", fn := fun _ => fun
  | [d1, d2] => { results := [.lit (.bool true)], args := [d1, d2] }
  | _ => none }
def analyseOwnRow : OpenClaim := { program := "ytbcbgglhhfdbcab", sum := "0e1eadb8c03fdfbd7653ffc8a827608c86c181fcc41fd149af330eb003febda2", func := "fulcrum/fulcrumlaw21.AnalyseOwn", spec := "analyseOwn", unfollowed := true, recurses := true, apart := false }
def AnalyseOwnSaid : Prop := analyseOwnRow.holds Try.pinned (OpenSpec.ofChange analyseOwnSpec)

/-- ITS FALSE NEIGHBOUR: 'it returns false'. Refute it at one input. -/
def analyseOwnWrong : ChangeSpec := { name := "analyseOwn", fn := fun _ => fun
  | [d1, d2] => { results := [.lit (.bool false)], args := [d1, d2] }
  | _ => none }
def AnalyseOwnWrongFalsely : Prop := analyseOwnRow.holds Try.pinned (OpenSpec.ofChange analyseOwnWrong)

/- THE SECOND FORM. 'bulk': how many values and letters a reading holds, each counted each time it is reached (what is shared counts as often as it is met; a slice's spare places count too). A statement '..UptoSaid' is the law's where the arguments, and the package variables that the reading takes, are together of bulk at most 1048576: NARROWER than '..Said'. Prove '..Said' where nothing that the law and all that it calls make is longer than what came in: it says more and counts as full. Else prove '..UptoSaid'. A law counts once. -/
mutual
def uptoBulk {H : Type} : DataW H → Nat
  | .lit (.string bytes) => bytes.length + 1
  | .lit _ => 1
  | .nil => 1
  | .ptr d => uptoBulk d + 1
  | .slice elems spare => uptoBulkAll elems + uptoBulkAll spare + 1
  | .agg parts => uptoBulkAll parts + 1
  | .iface _ d => uptoBulk d + 1
  | .map entries => uptoBulkEntries entries + 1
  | .held _ => 1
def uptoBulkAll {H : Type} : List (DataW H) → Nat
  | [] => 0
  | d :: r => uptoBulk d + uptoBulkAll r
def uptoBulkEntries {H : Type} : List (Lit × DataW H) → Nat
  | [] => 0
  | x :: r => uptoBulkEntry x + uptoBulkEntries r
def uptoBulkEntry {H : Type} : Lit × DataW H → Nat
  | (.string bytes, d) => bytes.length + uptoBulk d + 1
  | (_, d) => uptoBulk d + 1
 end
def uptoSmall : (H : Type) → List (DataW H) → Bool := fun _ ds => decide (uptoBulkAll ds ≤ 1048576)
def OpenSpec.upto (s : _root_.Go.ChangeSpec) : _root_.Go.OpenSpec := { _root_.Go.OpenSpec.ofChange s with cond := some uptoSmall }

/-- 'fulcrumlaw21.AnalyseFinals', WHERE WHAT IT READS IS OF BULK AT MOST 1048576: true; the input reads as it did. -/
def analyseFinalsUptoRow : OpenClaim := { program := "ytbcbgglhhfdbcab", sum := "0e1eadb8c03fdfbd7653ffc8a827608c86c181fcc41fd149af330eb003febda2", func := "fulcrum/fulcrumlaw21.AnalyseFinals", spec := "analyseFinals", unfollowed := true, recurses := true, apart := false, narrowed := true }
def AnalyseFinalsUptoSaid : Prop := analyseFinalsUptoRow.holds Try.pinned (OpenSpec.upto analyseFinalsSpec)

/-- 'fulcrumlaw21.AnalyseTeaches', WHERE WHAT IT READS IS OF BULK AT MOST 1048576: true; the input reads as it did. -/
def analyseTeachesUptoRow : OpenClaim := { program := "ytbcbgglhhfdbcab", sum := "0e1eadb8c03fdfbd7653ffc8a827608c86c181fcc41fd149af330eb003febda2", func := "fulcrum/fulcrumlaw21.AnalyseTeaches", spec := "analyseTeaches", unfollowed := true, recurses := true, apart := false, narrowed := true }
def AnalyseTeachesUptoSaid : Prop := analyseTeachesUptoRow.holds Try.pinned (OpenSpec.upto analyseTeachesSpec)

/-- 'fulcrumlaw21.AnalyseImplies', WHERE WHAT IT READS IS OF BULK AT MOST 1048576: true; the input reads as it did. -/
def analyseImpliesUptoRow : OpenClaim := { program := "ytbcbgglhhfdbcab", sum := "0e1eadb8c03fdfbd7653ffc8a827608c86c181fcc41fd149af330eb003febda2", func := "fulcrum/fulcrumlaw21.AnalyseImplies", spec := "analyseImplies", unfollowed := true, recurses := true, apart := false, narrowed := true }
def AnalyseImpliesUptoSaid : Prop := analyseImpliesUptoRow.holds Try.pinned (OpenSpec.upto analyseImpliesSpec)

/-- 'fulcrumlaw21.AnalyseLeans', WHERE WHAT IT READS IS OF BULK AT MOST 1048576: true; the input reads as it did. -/
def analyseLeansUptoRow : OpenClaim := { program := "ytbcbgglhhfdbcab", sum := "0e1eadb8c03fdfbd7653ffc8a827608c86c181fcc41fd149af330eb003febda2", func := "fulcrum/fulcrumlaw21.AnalyseLeans", spec := "analyseLeans", unfollowed := true, recurses := true, apart := false, narrowed := true }
def AnalyseLeansUptoSaid : Prop := analyseLeansUptoRow.holds Try.pinned (OpenSpec.upto analyseLeansSpec)

/-- 'fulcrumlaw21.AnalyseOwn', WHERE WHAT IT READS IS OF BULK AT MOST 1048576: true; the input reads as it did. -/
def analyseOwnUptoRow : OpenClaim := { program := "ytbcbgglhhfdbcab", sum := "0e1eadb8c03fdfbd7653ffc8a827608c86c181fcc41fd149af330eb003febda2", func := "fulcrum/fulcrumlaw21.AnalyseOwn", spec := "analyseOwn", unfollowed := true, recurses := true, apart := false, narrowed := true }
def AnalyseOwnUptoSaid : Prop := analyseOwnUptoRow.holds Try.pinned (OpenSpec.upto analyseOwnSpec)

end Rows
end Go.Proofs.Ytbcbgglhhfdbcab
