/-
  NARROWER THAN 'FOR EVERY INPUT', by the rows' own cells (each row's printed sentence says how): SexprReads: laid · SexprDeep: laid · SexprSames: loops, laid · SexprPlays: laid · SexprPieces: laid · SexprApart: laid.
  DERIVED. THE GIVEN ROWS OF THIS SEAT. 6 by the template 'for every input the law returns true; each argument reads behind the call as it read before'; 0 by the template 'total and deterministic' (their statements: YtibeiggedmabkaaDoorTotals.lean).
  GIVEN WITH THE SEED: the statements are not yours to turn. If you find one false, say at which input.
  Laid BY PROGRAM, IN A SANDBOX (cutbox-rows.mjs): the forced cells as the released guide's own fill.sh prints them over the translation f03d3220bb0e1e15… (all of the seat's roots in one cut). By AI agents, Wed Nov 11 2026. No macro, syntax, notation, axiom, sorry.
-/
import Derived.Test.YtibeiggedmabkaaDoorChecked
import GoSem.PinnedTables
import GoSem.Claim
import GoSem.ClaimJoined
import GoSem.ClaimMapViews
import Derived.JoinedTies
import Derived.KernelRfl
namespace Go.Proofs.YtibeiggedmabkaaDoor
/- THE CELL 'sum', in the pinned program and in every row, IS THE sha256 OF THE DUMP (.gsa) THAT YtibeiggedmabkaaDoorProg.lean LOADS. Nothing in Lean hashes anything: it is a label: what it is worth is what the hold of that sum in a sandbox is worth. -/
noncomputable def Tryd.pinned : Pinned := { name := "ytibeiggedmabkaadoor", sum := "f03d3220bb0e1e157f75d4475ad6fa49fec0c86f8a6333b99ddf2adce147e813", checked := Tryd.checked }
namespace Rows
def none {H : Type} : Left H := { results := [], args := [] }

/- WHAT THE LISTED PACKAGE-LEVEL VARIABLES READ AS WHEN THE CALL BEGINS. Each datum BY PROGRAM (the guide's laid-datum.mjs) off the statement by which the dump's own 'gosem.cut.vars' lays the variable. In a bare row this is a premise. The card (YtibeiggedmabkaaDoorCards.lean) ties it to the program's text. -/
def laid_unicode_utf8_acceptRanges {H : Type} : DataW H := .agg [.agg [.lit (.int .u8 128), .lit (.int .u8 191)], .agg [.lit (.int .u8 160), .lit (.int .u8 191)], .agg [.lit (.int .u8 128), .lit (.int .u8 159)], .agg [.lit (.int .u8 144), .lit (.int .u8 191)], .agg [.lit (.int .u8 128), .lit (.int .u8 143)], .agg [.lit (.int .u8 0), .lit (.int .u8 0)], .agg [.lit (.int .u8 0), .lit (.int .u8 0)], .agg [.lit (.int .u8 0), .lit (.int .u8 0)], .agg [.lit (.int .u8 0), .lit (.int .u8 0)], .agg [.lit (.int .u8 0), .lit (.int .u8 0)], .agg [.lit (.int .u8 0), .lit (.int .u8 0)], .agg [.lit (.int .u8 0), .lit (.int .u8 0)], .agg [.lit (.int .u8 0), .lit (.int .u8 0)], .agg [.lit (.int .u8 0), .lit (.int .u8 0)], .agg [.lit (.int .u8 0), .lit (.int .u8 0)], .agg [.lit (.int .u8 0), .lit (.int .u8 0)]]
/-- One of Go's own tables, pinned by name: the form's constant. -/
def laid_unicode_utf8_first : DataW Unit := Go.Pinned.utf8First

/-- 'fulcrumlaw13.SexprReads': WHATEVER THE INPUT: true; the input reads as it did. -/
def sexprReadsSpec : ChangeSpec := { name := "sexprReads", fn := fun _ => fun
  | [d] => { results := [.lit (.bool true)], args := [d] }
  | _ => none }
def sexprReadsRow : OpenClaim := { program := "ytibeiggedmabkaadoor", sum := "f03d3220bb0e1e157f75d4475ad6fa49fec0c86f8a6333b99ddf2adce147e813", func := "fulcrum/fulcrumlaw13.SexprReads", spec := "sexprReads", inPlace := ["internal/bytealg.IndexByteString", "internal/bytealg.IndexString", "internal/bytealg.CountString", "internal/abi.NoEscape", "internal/bytealg.MakeNoZero"], unfollowed := true, recurses := true, named := ["internal/bytealg.MaxLen", "unicode/utf8.first", "unicode/utf8.acceptRanges"], apart := false, laid := [("unicode/utf8.acceptRanges", laid_unicode_utf8_acceptRanges), ("unicode/utf8.first", laid_unicode_utf8_first)] }
def SexprReadsSaid : Prop := sexprReadsRow.holds Tryd.pinned (OpenSpec.ofChange sexprReadsSpec)

/-- ITS FALSE NEIGHBOUR: 'it returns false'. Refute it at one input. -/
def sexprReadsWrong : ChangeSpec := { name := "sexprReads", fn := fun _ => fun
  | [d] => { results := [.lit (.bool false)], args := [d] }
  | _ => none }
def SexprReadsWrongFalsely : Prop := sexprReadsRow.holds Tryd.pinned (OpenSpec.ofChange sexprReadsWrong)

/-- 'fulcrumlaw13.SexprDeep': WHATEVER THE INPUT: true; the input reads as it did. -/
def sexprDeepSpec : ChangeSpec := { name := "sexprDeep", fn := fun _ => fun
  | [d1, d2] => { results := [.lit (.bool true)], args := [d1, d2] }
  | _ => none }
def sexprDeepRow : OpenClaim := { program := "ytibeiggedmabkaadoor", sum := "f03d3220bb0e1e157f75d4475ad6fa49fec0c86f8a6333b99ddf2adce147e813", func := "fulcrum/fulcrumlaw13.SexprDeep", spec := "sexprDeep", inPlace := ["internal/bytealg.IndexByteString", "internal/bytealg.IndexString", "internal/bytealg.CountString", "internal/abi.NoEscape", "internal/bytealg.MakeNoZero"], unfollowed := true, recurses := true, named := ["internal/bytealg.MaxLen", "unicode/utf8.first", "unicode/utf8.acceptRanges"], apart := false, laid := [("unicode/utf8.acceptRanges", laid_unicode_utf8_acceptRanges), ("unicode/utf8.first", laid_unicode_utf8_first)] }
def SexprDeepSaid : Prop := sexprDeepRow.holds Tryd.pinned (OpenSpec.ofChange sexprDeepSpec)

/-- ITS FALSE NEIGHBOUR: 'it returns false'. Refute it at one input. -/
def sexprDeepWrong : ChangeSpec := { name := "sexprDeep", fn := fun _ => fun
  | [d1, d2] => { results := [.lit (.bool false)], args := [d1, d2] }
  | _ => none }
def SexprDeepWrongFalsely : Prop := sexprDeepRow.holds Tryd.pinned (OpenSpec.ofChange sexprDeepWrong)

/-- 'fulcrumlaw13.SexprSames': WHATEVER THE INPUT: true; the input reads as it did. -/
def sexprSamesSpec : ChangeSpec := { name := "sexprSames", fn := fun _ => fun
  | [d1, d2] => { results := [.lit (.bool true)], args := [d1, d2] }
  | _ => none }
def sexprSamesRow : OpenClaim := { program := "ytibeiggedmabkaadoor", sum := "f03d3220bb0e1e157f75d4475ad6fa49fec0c86f8a6333b99ddf2adce147e813", func := "fulcrum/fulcrumlaw13.SexprSames", spec := "sexprSames", inPlace := ["internal/bytealg.IndexByteString", "internal/bytealg.IndexString", "internal/bytealg.CountString", "internal/abi.NoEscape", "internal/bytealg.MakeNoZero"], unfollowed := true, recurses := true, named := ["internal/bytealg.MaxLen", "unicode/utf8.first", "unicode/utf8.acceptRanges"], loops := true, apart := false, laid := [("unicode/utf8.acceptRanges", laid_unicode_utf8_acceptRanges), ("unicode/utf8.first", laid_unicode_utf8_first)] }
def SexprSamesSaid : Prop := sexprSamesRow.holds Tryd.pinned (OpenSpec.ofChange sexprSamesSpec)

/-- ITS FALSE NEIGHBOUR: 'it returns false'. Refute it at one input. -/
def sexprSamesWrong : ChangeSpec := { name := "sexprSames", fn := fun _ => fun
  | [d1, d2] => { results := [.lit (.bool false)], args := [d1, d2] }
  | _ => none }
def SexprSamesWrongFalsely : Prop := sexprSamesRow.holds Tryd.pinned (OpenSpec.ofChange sexprSamesWrong)

/-- 'fulcrumlaw13.SexprPlays': WHATEVER THE INPUT: true; the input reads as it did. -/
def sexprPlaysSpec : ChangeSpec := { name := "sexprPlays", fn := fun _ => fun
  | [d] => { results := [.lit (.bool true)], args := [d] }
  | _ => none }
def sexprPlaysRow : OpenClaim := { program := "ytibeiggedmabkaadoor", sum := "f03d3220bb0e1e157f75d4475ad6fa49fec0c86f8a6333b99ddf2adce147e813", func := "fulcrum/fulcrumlaw13.SexprPlays", spec := "sexprPlays", inPlace := ["internal/bytealg.IndexByteString", "internal/bytealg.IndexString", "internal/bytealg.CountString", "internal/abi.NoEscape", "internal/bytealg.MakeNoZero"], unfollowed := true, recurses := true, named := ["internal/bytealg.MaxLen", "unicode/utf8.first", "unicode/utf8.acceptRanges"], apart := false, laid := [("unicode/utf8.acceptRanges", laid_unicode_utf8_acceptRanges), ("unicode/utf8.first", laid_unicode_utf8_first)] }
def SexprPlaysSaid : Prop := sexprPlaysRow.holds Tryd.pinned (OpenSpec.ofChange sexprPlaysSpec)

/-- ITS FALSE NEIGHBOUR: 'it returns false'. Refute it at one input. -/
def sexprPlaysWrong : ChangeSpec := { name := "sexprPlays", fn := fun _ => fun
  | [d] => { results := [.lit (.bool false)], args := [d] }
  | _ => none }
def SexprPlaysWrongFalsely : Prop := sexprPlaysRow.holds Tryd.pinned (OpenSpec.ofChange sexprPlaysWrong)

/-- 'fulcrumlaw13.SexprPieces': WHATEVER THE INPUT: true; the input reads as it did. -/
def sexprPiecesSpec : ChangeSpec := { name := "sexprPieces", fn := fun _ => fun
  | [d1, d2] => { results := [.lit (.bool true)], args := [d1, d2] }
  | _ => none }
def sexprPiecesRow : OpenClaim := { program := "ytibeiggedmabkaadoor", sum := "f03d3220bb0e1e157f75d4475ad6fa49fec0c86f8a6333b99ddf2adce147e813", func := "fulcrum/fulcrumlaw13.SexprPieces", spec := "sexprPieces", inPlace := ["internal/bytealg.IndexByteString", "internal/bytealg.IndexString", "internal/bytealg.CountString", "internal/abi.NoEscape", "internal/bytealg.MakeNoZero"], unfollowed := true, recurses := true, named := ["internal/bytealg.MaxLen", "unicode/utf8.first", "unicode/utf8.acceptRanges"], apart := false, laid := [("unicode/utf8.acceptRanges", laid_unicode_utf8_acceptRanges), ("unicode/utf8.first", laid_unicode_utf8_first)] }
def SexprPiecesSaid : Prop := sexprPiecesRow.holds Tryd.pinned (OpenSpec.ofChange sexprPiecesSpec)

/-- ITS FALSE NEIGHBOUR: 'it returns false'. Refute it at one input. -/
def sexprPiecesWrong : ChangeSpec := { name := "sexprPieces", fn := fun _ => fun
  | [d1, d2] => { results := [.lit (.bool false)], args := [d1, d2] }
  | _ => none }
def SexprPiecesWrongFalsely : Prop := sexprPiecesRow.holds Tryd.pinned (OpenSpec.ofChange sexprPiecesWrong)

/-- 'fulcrumlaw13.SexprApart': WHATEVER THE INPUT: true; the input reads as it did. -/
def sexprApartSpec : ChangeSpec := { name := "sexprApart", fn := fun _ => fun
  | [d1, d2] => { results := [.lit (.bool true)], args := [d1, d2] }
  | _ => none }
def sexprApartRow : OpenClaim := { program := "ytibeiggedmabkaadoor", sum := "f03d3220bb0e1e157f75d4475ad6fa49fec0c86f8a6333b99ddf2adce147e813", func := "fulcrum/fulcrumlaw13.SexprApart", spec := "sexprApart", inPlace := ["internal/bytealg.IndexByteString", "internal/bytealg.IndexString", "internal/bytealg.CountString", "internal/abi.NoEscape", "internal/bytealg.MakeNoZero"], unfollowed := true, recurses := true, named := ["internal/bytealg.MaxLen", "unicode/utf8.first", "unicode/utf8.acceptRanges"], apart := false, laid := [("unicode/utf8.acceptRanges", laid_unicode_utf8_acceptRanges), ("unicode/utf8.first", laid_unicode_utf8_first)] }
def SexprApartSaid : Prop := sexprApartRow.holds Tryd.pinned (OpenSpec.ofChange sexprApartSpec)

/-- ITS FALSE NEIGHBOUR: 'it returns false'. Refute it at one input. -/
def sexprApartWrong : ChangeSpec := { name := "sexprApart", fn := fun _ => fun
  | [d1, d2] => { results := [.lit (.bool false)], args := [d1, d2] }
  | _ => none }
def SexprApartWrongFalsely : Prop := sexprApartRow.holds Tryd.pinned (OpenSpec.ofChange sexprApartWrong)

/- THE SECOND FORM. 'bulk': how many values and letters a reading holds, each counted each time it is reached (what is shared counts as often as it is met; a slice's spare places count too). A statement '..UptoSaid' is the law's where the arguments, and the package variables that the reading takes, are together of bulk at most 1048576: NARROWER than '..Said'. Prove '..Said' where nothing that the law and all that it calls make is longer than what came in: it says more and counts as full. Else prove '..UptoSaid'. A law counts once. -/
mutual
def uptoBulk {H : Type} : DataW H → Nat
  | .lit (.string bytes) => bytes.length + 1
  | .lit _ => 1
  | .nil => 1
  | .ptr d => uptoBulk d + 1
  | .slice elems spare => uptoBulkAll elems + uptoBulkAll spare + 1
  | .agg parts => uptoBulkAll parts + 1
  | .iface _ d => uptoBulk d + 1
  | .map entries => uptoBulkEntries entries + 1
  | .held _ => 1
def uptoBulkAll {H : Type} : List (DataW H) → Nat
  | [] => 0
  | d :: r => uptoBulk d + uptoBulkAll r
def uptoBulkEntries {H : Type} : List (Lit × DataW H) → Nat
  | [] => 0
  | x :: r => uptoBulkEntry x + uptoBulkEntries r
def uptoBulkEntry {H : Type} : Lit × DataW H → Nat
  | (.string bytes, d) => bytes.length + uptoBulk d + 1
  | (_, d) => uptoBulk d + 1
 end
def uptoSmall : (H : Type) → List (DataW H) → Bool := fun _ ds => decide (uptoBulkAll ds ≤ 1048576)
def OpenSpec.upto (s : _root_.Go.ChangeSpec) : _root_.Go.OpenSpec := { _root_.Go.OpenSpec.ofChange s with cond := some uptoSmall }

/-- 'fulcrumlaw13.SexprReads', WHERE WHAT IT READS IS OF BULK AT MOST 1048576: true; the input reads as it did. -/
def sexprReadsUptoRow : OpenClaim := { program := "ytibeiggedmabkaadoor", sum := "f03d3220bb0e1e157f75d4475ad6fa49fec0c86f8a6333b99ddf2adce147e813", func := "fulcrum/fulcrumlaw13.SexprReads", spec := "sexprReads", inPlace := ["internal/bytealg.IndexByteString", "internal/bytealg.IndexString", "internal/bytealg.CountString", "internal/abi.NoEscape", "internal/bytealg.MakeNoZero"], unfollowed := true, recurses := true, named := ["internal/bytealg.MaxLen", "unicode/utf8.first", "unicode/utf8.acceptRanges"], apart := false, laid := [("unicode/utf8.acceptRanges", laid_unicode_utf8_acceptRanges), ("unicode/utf8.first", laid_unicode_utf8_first)], narrowed := true }
def SexprReadsUptoSaid : Prop := sexprReadsUptoRow.holds Tryd.pinned (OpenSpec.upto sexprReadsSpec)

/-- 'fulcrumlaw13.SexprDeep', WHERE WHAT IT READS IS OF BULK AT MOST 1048576: true; the input reads as it did. -/
def sexprDeepUptoRow : OpenClaim := { program := "ytibeiggedmabkaadoor", sum := "f03d3220bb0e1e157f75d4475ad6fa49fec0c86f8a6333b99ddf2adce147e813", func := "fulcrum/fulcrumlaw13.SexprDeep", spec := "sexprDeep", inPlace := ["internal/bytealg.IndexByteString", "internal/bytealg.IndexString", "internal/bytealg.CountString", "internal/abi.NoEscape", "internal/bytealg.MakeNoZero"], unfollowed := true, recurses := true, named := ["internal/bytealg.MaxLen", "unicode/utf8.first", "unicode/utf8.acceptRanges"], apart := false, laid := [("unicode/utf8.acceptRanges", laid_unicode_utf8_acceptRanges), ("unicode/utf8.first", laid_unicode_utf8_first)], narrowed := true }
def SexprDeepUptoSaid : Prop := sexprDeepUptoRow.holds Tryd.pinned (OpenSpec.upto sexprDeepSpec)

/-- 'fulcrumlaw13.SexprSames', WHERE WHAT IT READS IS OF BULK AT MOST 1048576: true; the input reads as it did. -/
def sexprSamesUptoRow : OpenClaim := { program := "ytibeiggedmabkaadoor", sum := "f03d3220bb0e1e157f75d4475ad6fa49fec0c86f8a6333b99ddf2adce147e813", func := "fulcrum/fulcrumlaw13.SexprSames", spec := "sexprSames", inPlace := ["internal/bytealg.IndexByteString", "internal/bytealg.IndexString", "internal/bytealg.CountString", "internal/abi.NoEscape", "internal/bytealg.MakeNoZero"], unfollowed := true, recurses := true, named := ["internal/bytealg.MaxLen", "unicode/utf8.first", "unicode/utf8.acceptRanges"], loops := true, apart := false, laid := [("unicode/utf8.acceptRanges", laid_unicode_utf8_acceptRanges), ("unicode/utf8.first", laid_unicode_utf8_first)], narrowed := true }
def SexprSamesUptoSaid : Prop := sexprSamesUptoRow.holds Tryd.pinned (OpenSpec.upto sexprSamesSpec)

/-- 'fulcrumlaw13.SexprPlays', WHERE WHAT IT READS IS OF BULK AT MOST 1048576: true; the input reads as it did. -/
def sexprPlaysUptoRow : OpenClaim := { program := "ytibeiggedmabkaadoor", sum := "f03d3220bb0e1e157f75d4475ad6fa49fec0c86f8a6333b99ddf2adce147e813", func := "fulcrum/fulcrumlaw13.SexprPlays", spec := "sexprPlays", inPlace := ["internal/bytealg.IndexByteString", "internal/bytealg.IndexString", "internal/bytealg.CountString", "internal/abi.NoEscape", "internal/bytealg.MakeNoZero"], unfollowed := true, recurses := true, named := ["internal/bytealg.MaxLen", "unicode/utf8.first", "unicode/utf8.acceptRanges"], apart := false, laid := [("unicode/utf8.acceptRanges", laid_unicode_utf8_acceptRanges), ("unicode/utf8.first", laid_unicode_utf8_first)], narrowed := true }
def SexprPlaysUptoSaid : Prop := sexprPlaysUptoRow.holds Tryd.pinned (OpenSpec.upto sexprPlaysSpec)

/-- 'fulcrumlaw13.SexprPieces', WHERE WHAT IT READS IS OF BULK AT MOST 1048576: true; the input reads as it did. -/
def sexprPiecesUptoRow : OpenClaim := { program := "ytibeiggedmabkaadoor", sum := "f03d3220bb0e1e157f75d4475ad6fa49fec0c86f8a6333b99ddf2adce147e813", func := "fulcrum/fulcrumlaw13.SexprPieces", spec := "sexprPieces", inPlace := ["internal/bytealg.IndexByteString", "internal/bytealg.IndexString", "internal/bytealg.CountString", "internal/abi.NoEscape", "internal/bytealg.MakeNoZero"], unfollowed := true, recurses := true, named := ["internal/bytealg.MaxLen", "unicode/utf8.first", "unicode/utf8.acceptRanges"], apart := false, laid := [("unicode/utf8.acceptRanges", laid_unicode_utf8_acceptRanges), ("unicode/utf8.first", laid_unicode_utf8_first)], narrowed := true }
def SexprPiecesUptoSaid : Prop := sexprPiecesUptoRow.holds Tryd.pinned (OpenSpec.upto sexprPiecesSpec)

/-- 'fulcrumlaw13.SexprApart', WHERE WHAT IT READS IS OF BULK AT MOST 1048576: true; the input reads as it did. -/
def sexprApartUptoRow : OpenClaim := { program := "ytibeiggedmabkaadoor", sum := "f03d3220bb0e1e157f75d4475ad6fa49fec0c86f8a6333b99ddf2adce147e813", func := "fulcrum/fulcrumlaw13.SexprApart", spec := "sexprApart", inPlace := ["internal/bytealg.IndexByteString", "internal/bytealg.IndexString", "internal/bytealg.CountString", "internal/abi.NoEscape", "internal/bytealg.MakeNoZero"], unfollowed := true, recurses := true, named := ["internal/bytealg.MaxLen", "unicode/utf8.first", "unicode/utf8.acceptRanges"], apart := false, laid := [("unicode/utf8.acceptRanges", laid_unicode_utf8_acceptRanges), ("unicode/utf8.first", laid_unicode_utf8_first)], narrowed := true }
def SexprApartUptoSaid : Prop := sexprApartUptoRow.holds Tryd.pinned (OpenSpec.upto sexprApartSpec)

end Rows
end Go.Proofs.YtibeiggedmabkaaDoor
