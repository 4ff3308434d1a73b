/-
  NARROWER THAN 'FOR EVERY INPUT', by the rows' own cells (each row's printed sentence says how): RatioBetween: laid · RatioLeast: laid · RatioNearest: laid · RatioCloser: laid.
  DERIVED. THE GIVEN ROWS OF THIS SEAT. 4 by the template 'for every input the law returns true; each argument reads behind the call as it read before'; 0 by the template 'total and deterministic' (their statements: YtejlnodillnoaaaGreatDoorTotals.lean).
  GIVEN WITH THE SEED: the statements are not yours to turn. If you find one false, say at which input.
  Laid BY PROGRAM, IN A SANDBOX (cutbox-rows.mjs): the forced cells as the released guide's own fill.sh prints them over the translation 005ebaf428e72aaa… (all of the seat's roots in one cut). By AI agents, Wed Nov 11 2026. No macro, syntax, notation, axiom, sorry.
-/
import Derived.Test.YtejlnodillnoaaaGreatDoorChecked
import GoSem.Claim
import GoSem.ClaimJoined
import GoSem.ClaimMapViews
import Derived.JoinedTies
import Derived.KernelRfl
namespace Go.Proofs.YtejlnodillnoaaaGreatDoor
/- THE CELL 'sum', in the pinned program and in every row, IS THE sha256 OF THE DUMP (.gsa) THAT YtejlnodillnoaaaGreatDoorProg.lean LOADS. Nothing in Lean hashes anything: it is a label: what it is worth is what the hold of that sum in a sandbox is worth. -/
noncomputable def Tryz.pinned : Pinned := { name := "ytejlnodillnoaaagreatdoor", sum := "005ebaf428e72aaa27925b4d50f84a8e95231a3fad8e014b7b752becdc0c67e4", checked := Tryz.checked }
namespace Rows
def none {H : Type} : Left H := { results := [], args := [] }

/- WHAT THE LISTED PACKAGE-LEVEL VARIABLES READ AS WHEN THE CALL BEGINS. Each datum BY PROGRAM (the guide's laid-datum.mjs) off the statement by which the dump's own 'gosem.cut.vars' lays the variable. In a bare row this is a premise. The card (YtejlnodillnoaaaGreatDoorCards.lean) ties it to the program's text. -/
def laid_fulcrum_nat_digits {H : Type} : DataW H := .agg [.lit (.int .u8 48), .lit (.int .u8 49), .lit (.int .u8 50), .lit (.int .u8 51), .lit (.int .u8 52), .lit (.int .u8 53), .lit (.int .u8 54), .lit (.int .u8 55), .lit (.int .u8 56), .lit (.int .u8 57), .lit (.int .u8 97), .lit (.int .u8 98), .lit (.int .u8 99), .lit (.int .u8 100), .lit (.int .u8 101), .lit (.int .u8 102)]

/-- 'fulcrumlaw03.RatioBetween': WHATEVER THE INPUT: true; the input reads as it did. -/
def ratioBetweenSpec : ChangeSpec := { name := "ratioBetween", fn := fun _ => fun
  | [d1, d2] => { results := [.lit (.bool true)], args := [d1, d2] }
  | _ => none }
def ratioBetweenRow : OpenClaim := { program := "ytejlnodillnoaaagreatdoor", sum := "005ebaf428e72aaa27925b4d50f84a8e95231a3fad8e014b7b752becdc0c67e4", func := "fulcrum/fulcrumlaw03.RatioBetween", spec := "ratioBetween", inPlace := ["internal/bytealg.IndexByteString", "internal/bytealg.IndexString", "internal/abi.NoEscape", "internal/bytealg.MakeNoZero"], unfollowed := true, recurses := true, named := ["internal/bytealg.MaxLen", "fulcrum/nat.digits"], apart := false, laid := [("fulcrum/nat.digits", laid_fulcrum_nat_digits)] }
def RatioBetweenSaid : Prop := ratioBetweenRow.holds Tryz.pinned (OpenSpec.ofChange ratioBetweenSpec)

/-- ITS FALSE NEIGHBOUR: 'it returns false'. Refute it at one input. -/
def ratioBetweenWrong : ChangeSpec := { name := "ratioBetween", fn := fun _ => fun
  | [d1, d2] => { results := [.lit (.bool false)], args := [d1, d2] }
  | _ => none }
def RatioBetweenWrongFalsely : Prop := ratioBetweenRow.holds Tryz.pinned (OpenSpec.ofChange ratioBetweenWrong)

/-- 'fulcrumlaw03.RatioLeast': WHATEVER THE INPUT: true; the input reads as it did. -/
def ratioLeastSpec : ChangeSpec := { name := "ratioLeast", fn := fun _ => fun
  | [d1, d2, d3] => { results := [.lit (.bool true)], args := [d1, d2, d3] }
  | _ => none }
def ratioLeastRow : OpenClaim := { program := "ytejlnodillnoaaagreatdoor", sum := "005ebaf428e72aaa27925b4d50f84a8e95231a3fad8e014b7b752becdc0c67e4", func := "fulcrum/fulcrumlaw03.RatioLeast", spec := "ratioLeast", inPlace := ["internal/bytealg.IndexByteString", "internal/bytealg.IndexString", "internal/abi.NoEscape", "internal/bytealg.MakeNoZero"], unfollowed := true, recurses := true, named := ["internal/bytealg.MaxLen", "fulcrum/nat.digits"], apart := false, laid := [("fulcrum/nat.digits", laid_fulcrum_nat_digits)] }
def RatioLeastSaid : Prop := ratioLeastRow.holds Tryz.pinned (OpenSpec.ofChange ratioLeastSpec)

/-- ITS FALSE NEIGHBOUR: 'it returns false'. Refute it at one input. -/
def ratioLeastWrong : ChangeSpec := { name := "ratioLeast", fn := fun _ => fun
  | [d1, d2, d3] => { results := [.lit (.bool false)], args := [d1, d2, d3] }
  | _ => none }
def RatioLeastWrongFalsely : Prop := ratioLeastRow.holds Tryz.pinned (OpenSpec.ofChange ratioLeastWrong)

/-- 'fulcrumlaw03.RatioNearest': WHATEVER THE INPUT: true; the input reads as it did. -/
def ratioNearestSpec : ChangeSpec := { name := "ratioNearest", fn := fun _ => fun
  | [d1, d2] => { results := [.lit (.bool true)], args := [d1, d2] }
  | _ => none }
def ratioNearestRow : OpenClaim := { program := "ytejlnodillnoaaagreatdoor", sum := "005ebaf428e72aaa27925b4d50f84a8e95231a3fad8e014b7b752becdc0c67e4", func := "fulcrum/fulcrumlaw03.RatioNearest", spec := "ratioNearest", inPlace := ["internal/bytealg.IndexByteString", "internal/bytealg.IndexString", "internal/abi.NoEscape", "internal/bytealg.MakeNoZero"], unfollowed := true, recurses := true, named := ["internal/bytealg.MaxLen", "fulcrum/nat.digits"], apart := false, laid := [("fulcrum/nat.digits", laid_fulcrum_nat_digits)] }
def RatioNearestSaid : Prop := ratioNearestRow.holds Tryz.pinned (OpenSpec.ofChange ratioNearestSpec)

/-- ITS FALSE NEIGHBOUR: 'it returns false'. Refute it at one input. -/
def ratioNearestWrong : ChangeSpec := { name := "ratioNearest", fn := fun _ => fun
  | [d1, d2] => { results := [.lit (.bool false)], args := [d1, d2] }
  | _ => none }
def RatioNearestWrongFalsely : Prop := ratioNearestRow.holds Tryz.pinned (OpenSpec.ofChange ratioNearestWrong)

/-- 'fulcrumlaw03.RatioCloser': WHATEVER THE INPUT: true; the input reads as it did. -/
def ratioCloserSpec : ChangeSpec := { name := "ratioCloser", fn := fun _ => fun
  | [d1, d2, d3] => { results := [.lit (.bool true)], args := [d1, d2, d3] }
  | _ => none }
def ratioCloserRow : OpenClaim := { program := "ytejlnodillnoaaagreatdoor", sum := "005ebaf428e72aaa27925b4d50f84a8e95231a3fad8e014b7b752becdc0c67e4", func := "fulcrum/fulcrumlaw03.RatioCloser", spec := "ratioCloser", inPlace := ["internal/bytealg.IndexByteString", "internal/bytealg.IndexString", "internal/abi.NoEscape", "internal/bytealg.MakeNoZero"], unfollowed := true, recurses := true, named := ["internal/bytealg.MaxLen", "fulcrum/nat.digits"], apart := false, laid := [("fulcrum/nat.digits", laid_fulcrum_nat_digits)] }
def RatioCloserSaid : Prop := ratioCloserRow.holds Tryz.pinned (OpenSpec.ofChange ratioCloserSpec)

/-- ITS FALSE NEIGHBOUR: 'it returns false'. Refute it at one input. -/
def ratioCloserWrong : ChangeSpec := { name := "ratioCloser", fn := fun _ => fun
  | [d1, d2, d3] => { results := [.lit (.bool false)], args := [d1, d2, d3] }
  | _ => none }
def RatioCloserWrongFalsely : Prop := ratioCloserRow.holds Tryz.pinned (OpenSpec.ofChange ratioCloserWrong)

/- THE SECOND FORM. 'bulk': how many values and letters a reading holds, each counted each time it is reached (what is shared counts as often as it is met; a slice's spare places count too). A statement '..UptoSaid' is the law's where the arguments, and the package variables that the reading takes, are together of bulk at most 1048576: NARROWER than '..Said'. Prove '..Said' where nothing that the law and all that it calls make is longer than what came in: it says more and counts as full. Else prove '..UptoSaid'. A law counts once. -/
mutual
def uptoBulk {H : Type} : DataW H → Nat
  | .lit (.string bytes) => bytes.length + 1
  | .lit _ => 1
  | .nil => 1
  | .ptr d => uptoBulk d + 1
  | .slice elems spare => uptoBulkAll elems + uptoBulkAll spare + 1
  | .agg parts => uptoBulkAll parts + 1
  | .iface _ d => uptoBulk d + 1
  | .map entries => uptoBulkEntries entries + 1
  | .held _ => 1
def uptoBulkAll {H : Type} : List (DataW H) → Nat
  | [] => 0
  | d :: r => uptoBulk d + uptoBulkAll r
def uptoBulkEntries {H : Type} : List (Lit × DataW H) → Nat
  | [] => 0
  | x :: r => uptoBulkEntry x + uptoBulkEntries r
def uptoBulkEntry {H : Type} : Lit × DataW H → Nat
  | (.string bytes, d) => bytes.length + uptoBulk d + 1
  | (_, d) => uptoBulk d + 1
 end
def uptoSmall : (H : Type) → List (DataW H) → Bool := fun _ ds => decide (uptoBulkAll ds ≤ 1048576)
def OpenSpec.upto (s : _root_.Go.ChangeSpec) : _root_.Go.OpenSpec := { _root_.Go.OpenSpec.ofChange s with cond := some uptoSmall }

/-- 'fulcrumlaw03.RatioBetween', WHERE WHAT IT READS IS OF BULK AT MOST 1048576: true; the input reads as it did. -/
def ratioBetweenUptoRow : OpenClaim := { program := "ytejlnodillnoaaagreatdoor", sum := "005ebaf428e72aaa27925b4d50f84a8e95231a3fad8e014b7b752becdc0c67e4", func := "fulcrum/fulcrumlaw03.RatioBetween", spec := "ratioBetween", inPlace := ["internal/bytealg.IndexByteString", "internal/bytealg.IndexString", "internal/abi.NoEscape", "internal/bytealg.MakeNoZero"], unfollowed := true, recurses := true, named := ["internal/bytealg.MaxLen", "fulcrum/nat.digits"], apart := false, laid := [("fulcrum/nat.digits", laid_fulcrum_nat_digits)], narrowed := true }
def RatioBetweenUptoSaid : Prop := ratioBetweenUptoRow.holds Tryz.pinned (OpenSpec.upto ratioBetweenSpec)

/-- 'fulcrumlaw03.RatioLeast', WHERE WHAT IT READS IS OF BULK AT MOST 1048576: true; the input reads as it did. -/
def ratioLeastUptoRow : OpenClaim := { program := "ytejlnodillnoaaagreatdoor", sum := "005ebaf428e72aaa27925b4d50f84a8e95231a3fad8e014b7b752becdc0c67e4", func := "fulcrum/fulcrumlaw03.RatioLeast", spec := "ratioLeast", inPlace := ["internal/bytealg.IndexByteString", "internal/bytealg.IndexString", "internal/abi.NoEscape", "internal/bytealg.MakeNoZero"], unfollowed := true, recurses := true, named := ["internal/bytealg.MaxLen", "fulcrum/nat.digits"], apart := false, laid := [("fulcrum/nat.digits", laid_fulcrum_nat_digits)], narrowed := true }
def RatioLeastUptoSaid : Prop := ratioLeastUptoRow.holds Tryz.pinned (OpenSpec.upto ratioLeastSpec)

/-- 'fulcrumlaw03.RatioNearest', WHERE WHAT IT READS IS OF BULK AT MOST 1048576: true; the input reads as it did. -/
def ratioNearestUptoRow : OpenClaim := { program := "ytejlnodillnoaaagreatdoor", sum := "005ebaf428e72aaa27925b4d50f84a8e95231a3fad8e014b7b752becdc0c67e4", func := "fulcrum/fulcrumlaw03.RatioNearest", spec := "ratioNearest", inPlace := ["internal/bytealg.IndexByteString", "internal/bytealg.IndexString", "internal/abi.NoEscape", "internal/bytealg.MakeNoZero"], unfollowed := true, recurses := true, named := ["internal/bytealg.MaxLen", "fulcrum/nat.digits"], apart := false, laid := [("fulcrum/nat.digits", laid_fulcrum_nat_digits)], narrowed := true }
def RatioNearestUptoSaid : Prop := ratioNearestUptoRow.holds Tryz.pinned (OpenSpec.upto ratioNearestSpec)

/-- 'fulcrumlaw03.RatioCloser', WHERE WHAT IT READS IS OF BULK AT MOST 1048576: true; the input reads as it did. -/
def ratioCloserUptoRow : OpenClaim := { program := "ytejlnodillnoaaagreatdoor", sum := "005ebaf428e72aaa27925b4d50f84a8e95231a3fad8e014b7b752becdc0c67e4", func := "fulcrum/fulcrumlaw03.RatioCloser", spec := "ratioCloser", inPlace := ["internal/bytealg.IndexByteString", "internal/bytealg.IndexString", "internal/abi.NoEscape", "internal/bytealg.MakeNoZero"], unfollowed := true, recurses := true, named := ["internal/bytealg.MaxLen", "fulcrum/nat.digits"], apart := false, laid := [("fulcrum/nat.digits", laid_fulcrum_nat_digits)], narrowed := true }
def RatioCloserUptoSaid : Prop := ratioCloserUptoRow.holds Tryz.pinned (OpenSpec.upto ratioCloserSpec)

end Rows
end Go.Proofs.YtejlnodillnoaaaGreatDoor
