/-
  No cell of these rows narrows 'for every input' (looked for: loops, veiled, ifaces, maps, wideKeys, modest, calm, conditions, laid).
  DERIVED. THE GIVEN ROWS OF THIS SEAT. 6 by the template 'for every input the law returns true; each argument reads behind the call as it read before'; 0 by the template 'total and deterministic' (their statements: YtkbjfdfooompbaaTotals.lean).
  GIVEN WITH THE SEED: the statements are not yours to turn. If you find one false, say at which input.
  Laid BY PROGRAM, IN A SANDBOX (cutbox-rows.mjs): the forced cells as the released guide's own fill.sh prints them over the translation 4b6b858d9d4fd537… (all of the seat's roots in one cut). By AI agents, Wed Nov 11 2026. No macro, syntax, notation, axiom, sorry.
-/
import Derived.Test.YtkbjfdfooompbaaChecked
import GoSem.Claim
import GoSem.ClaimJoined
import GoSem.ClaimMapViews
import Derived.JoinedTies
import Derived.KernelRfl
namespace Go.Proofs.Ytkbjfdfooompbaa
/- THE CELL 'sum', in the pinned program and in every row, IS THE sha256 OF THE DUMP (.gsa) THAT YtkbjfdfooompbaaProg.lean LOADS. Nothing in Lean hashes anything: it is a label: what it is worth is what the hold of that sum in a sandbox is worth. -/
noncomputable def Try.pinned : Pinned := { name := "ytkbjfdfooompbaa", sum := "4b6b858d9d4fd53733fa8ca376aa1699750f6ce6a5ace493517f053feda480d9", checked := Try.checked }
namespace Rows
def none {H : Type} : Left H := { results := [], args := [] }

/-- 'fulcrumlaw01.NatConsts': WHATEVER THE INPUT: true; the input reads as it did. -/
def natConstsSpec : ChangeSpec := { name := "natConsts", fn := fun _ => fun
  | [] => { results := [.lit (.bool true)], args := [] }
  | _ => none }
def natConstsRow : OpenClaim := { program := "ytkbjfdfooompbaa", sum := "4b6b858d9d4fd53733fa8ca376aa1699750f6ce6a5ace493517f053feda480d9", func := "fulcrum/fulcrumlaw01.NatConsts", spec := "natConsts", apart := false }
def NatConstsSaid : Prop := natConstsRow.holds Try.pinned (OpenSpec.ofChange natConstsSpec)

/-- ITS FALSE NEIGHBOUR: 'it returns false'. Refute it at one input. -/
def natConstsWrong : ChangeSpec := { name := "natConsts", fn := fun _ => fun
  | [] => { results := [.lit (.bool false)], args := [] }
  | _ => none }
def NatConstsWrongFalsely : Prop := natConstsRow.holds Try.pinned (OpenSpec.ofChange natConstsWrong)

/-- 'fulcrumlaw01.NatNorms': WHATEVER THE INPUT: true; the input reads as it did. -/
def natNormsSpec : ChangeSpec := { name := "natNorms", fn := fun _ => fun
  | [d1, d2] => { results := [.lit (.bool true)], args := [d1, d2] }
  | _ => none }
def natNormsRow : OpenClaim := { program := "ytkbjfdfooompbaa", sum := "4b6b858d9d4fd53733fa8ca376aa1699750f6ce6a5ace493517f053feda480d9", func := "fulcrum/fulcrumlaw01.NatNorms", spec := "natNorms", apart := false }
def NatNormsSaid : Prop := natNormsRow.holds Try.pinned (OpenSpec.ofChange natNormsSpec)

/-- ITS FALSE NEIGHBOUR: 'it returns false'. Refute it at one input. -/
def natNormsWrong : ChangeSpec := { name := "natNorms", fn := fun _ => fun
  | [d1, d2] => { results := [.lit (.bool false)], args := [d1, d2] }
  | _ => none }
def NatNormsWrongFalsely : Prop := natNormsRow.holds Try.pinned (OpenSpec.ofChange natNormsWrong)

/-- 'fulcrumlaw01.NatSums': WHATEVER THE INPUT: true; the input reads as it did. -/
def natSumsSpec : ChangeSpec := { name := "natSums", fn := fun _ => fun
  | [d1, d2] => { results := [.lit (.bool true)], args := [d1, d2] }
  | _ => none }
def natSumsRow : OpenClaim := { program := "ytkbjfdfooompbaa", sum := "4b6b858d9d4fd53733fa8ca376aa1699750f6ce6a5ace493517f053feda480d9", func := "fulcrum/fulcrumlaw01.NatSums", spec := "natSums", apart := false }
def NatSumsSaid : Prop := natSumsRow.holds Try.pinned (OpenSpec.ofChange natSumsSpec)

/-- ITS FALSE NEIGHBOUR: 'it returns false'. Refute it at one input. -/
def natSumsWrong : ChangeSpec := { name := "natSums", fn := fun _ => fun
  | [d1, d2] => { results := [.lit (.bool false)], args := [d1, d2] }
  | _ => none }
def NatSumsWrongFalsely : Prop := natSumsRow.holds Try.pinned (OpenSpec.ofChange natSumsWrong)

/-- 'fulcrumlaw01.NatProducts': WHATEVER THE INPUT: true; the input reads as it did. -/
def natProductsSpec : ChangeSpec := { name := "natProducts", fn := fun _ => fun
  | [d1, d2] => { results := [.lit (.bool true)], args := [d1, d2] }
  | _ => none }
def natProductsRow : OpenClaim := { program := "ytkbjfdfooompbaa", sum := "4b6b858d9d4fd53733fa8ca376aa1699750f6ce6a5ace493517f053feda480d9", func := "fulcrum/fulcrumlaw01.NatProducts", spec := "natProducts", recurses := true, apart := false }
def NatProductsSaid : Prop := natProductsRow.holds Try.pinned (OpenSpec.ofChange natProductsSpec)

/-- ITS FALSE NEIGHBOUR: 'it returns false'. Refute it at one input. -/
def natProductsWrong : ChangeSpec := { name := "natProducts", fn := fun _ => fun
  | [d1, d2] => { results := [.lit (.bool false)], args := [d1, d2] }
  | _ => none }
def NatProductsWrongFalsely : Prop := natProductsRow.holds Try.pinned (OpenSpec.ofChange natProductsWrong)

/-- 'fulcrumlaw01.NatDivisors': WHATEVER THE INPUT: true; the input reads as it did. -/
def natDivisorsSpec : ChangeSpec := { name := "natDivisors", fn := fun _ => fun
  | [d1, d2] => { results := [.lit (.bool true)], args := [d1, d2] }
  | _ => none }
def natDivisorsRow : OpenClaim := { program := "ytkbjfdfooompbaa", sum := "4b6b858d9d4fd53733fa8ca376aa1699750f6ce6a5ace493517f053feda480d9", func := "fulcrum/fulcrumlaw01.NatDivisors", spec := "natDivisors", apart := false }
def NatDivisorsSaid : Prop := natDivisorsRow.holds Try.pinned (OpenSpec.ofChange natDivisorsSpec)

/-- ITS FALSE NEIGHBOUR: 'it returns false'. Refute it at one input. -/
def natDivisorsWrong : ChangeSpec := { name := "natDivisors", fn := fun _ => fun
  | [d1, d2] => { results := [.lit (.bool false)], args := [d1, d2] }
  | _ => none }
def NatDivisorsWrongFalsely : Prop := natDivisorsRow.holds Try.pinned (OpenSpec.ofChange natDivisorsWrong)

/-- 'fulcrumlaw01.NatBits': WHATEVER THE INPUT: true; the input reads as it did. -/
def natBitsSpec : ChangeSpec := { name := "natBits", fn := fun _ => fun
  | [d1, d2] => { results := [.lit (.bool true)], args := [d1, d2] }
  | _ => none }
def natBitsRow : OpenClaim := { program := "ytkbjfdfooompbaa", sum := "4b6b858d9d4fd53733fa8ca376aa1699750f6ce6a5ace493517f053feda480d9", func := "fulcrum/fulcrumlaw01.NatBits", spec := "natBits", apart := false }
def NatBitsSaid : Prop := natBitsRow.holds Try.pinned (OpenSpec.ofChange natBitsSpec)

/-- ITS FALSE NEIGHBOUR: 'it returns false'. Refute it at one input. -/
def natBitsWrong : ChangeSpec := { name := "natBits", fn := fun _ => fun
  | [d1, d2] => { results := [.lit (.bool false)], args := [d1, d2] }
  | _ => none }
def NatBitsWrongFalsely : Prop := natBitsRow.holds Try.pinned (OpenSpec.ofChange natBitsWrong)

/- THE SECOND FORM. 'bulk': how many values and letters a reading holds, each counted each time it is reached (what is shared counts as often as it is met; a slice's spare places count too). A statement '..UptoSaid' is the law's where the arguments, and the package variables that the reading takes, are together of bulk at most 1048576: NARROWER than '..Said'. Prove '..Said' where nothing that the law and all that it calls make is longer than what came in: it says more and counts as full. Else prove '..UptoSaid'. A law counts once. -/
mutual
def uptoBulk {H : Type} : DataW H → Nat
  | .lit (.string bytes) => bytes.length + 1
  | .lit _ => 1
  | .nil => 1
  | .ptr d => uptoBulk d + 1
  | .slice elems spare => uptoBulkAll elems + uptoBulkAll spare + 1
  | .agg parts => uptoBulkAll parts + 1
  | .iface _ d => uptoBulk d + 1
  | .map entries => uptoBulkEntries entries + 1
  | .held _ => 1
def uptoBulkAll {H : Type} : List (DataW H) → Nat
  | [] => 0
  | d :: r => uptoBulk d + uptoBulkAll r
def uptoBulkEntries {H : Type} : List (Lit × DataW H) → Nat
  | [] => 0
  | x :: r => uptoBulkEntry x + uptoBulkEntries r
def uptoBulkEntry {H : Type} : Lit × DataW H → Nat
  | (.string bytes, d) => bytes.length + uptoBulk d + 1
  | (_, d) => uptoBulk d + 1
 end
def uptoSmall : (H : Type) → List (DataW H) → Bool := fun _ ds => decide (uptoBulkAll ds ≤ 1048576)
def OpenSpec.upto (s : _root_.Go.ChangeSpec) : _root_.Go.OpenSpec := { _root_.Go.OpenSpec.ofChange s with cond := some uptoSmall }

/-- 'fulcrumlaw01.NatConsts', WHERE WHAT IT READS IS OF BULK AT MOST 1048576: true; the input reads as it did. -/
def natConstsUptoRow : OpenClaim := { program := "ytkbjfdfooompbaa", sum := "4b6b858d9d4fd53733fa8ca376aa1699750f6ce6a5ace493517f053feda480d9", func := "fulcrum/fulcrumlaw01.NatConsts", spec := "natConsts", apart := false, narrowed := true }
def NatConstsUptoSaid : Prop := natConstsUptoRow.holds Try.pinned (OpenSpec.upto natConstsSpec)

/-- 'fulcrumlaw01.NatNorms', WHERE WHAT IT READS IS OF BULK AT MOST 1048576: true; the input reads as it did. -/
def natNormsUptoRow : OpenClaim := { program := "ytkbjfdfooompbaa", sum := "4b6b858d9d4fd53733fa8ca376aa1699750f6ce6a5ace493517f053feda480d9", func := "fulcrum/fulcrumlaw01.NatNorms", spec := "natNorms", apart := false, narrowed := true }
def NatNormsUptoSaid : Prop := natNormsUptoRow.holds Try.pinned (OpenSpec.upto natNormsSpec)

/-- 'fulcrumlaw01.NatSums', WHERE WHAT IT READS IS OF BULK AT MOST 1048576: true; the input reads as it did. -/
def natSumsUptoRow : OpenClaim := { program := "ytkbjfdfooompbaa", sum := "4b6b858d9d4fd53733fa8ca376aa1699750f6ce6a5ace493517f053feda480d9", func := "fulcrum/fulcrumlaw01.NatSums", spec := "natSums", apart := false, narrowed := true }
def NatSumsUptoSaid : Prop := natSumsUptoRow.holds Try.pinned (OpenSpec.upto natSumsSpec)

/-- 'fulcrumlaw01.NatProducts', WHERE WHAT IT READS IS OF BULK AT MOST 1048576: true; the input reads as it did. -/
def natProductsUptoRow : OpenClaim := { program := "ytkbjfdfooompbaa", sum := "4b6b858d9d4fd53733fa8ca376aa1699750f6ce6a5ace493517f053feda480d9", func := "fulcrum/fulcrumlaw01.NatProducts", spec := "natProducts", recurses := true, apart := false, narrowed := true }
def NatProductsUptoSaid : Prop := natProductsUptoRow.holds Try.pinned (OpenSpec.upto natProductsSpec)

/-- 'fulcrumlaw01.NatDivisors', WHERE WHAT IT READS IS OF BULK AT MOST 1048576: true; the input reads as it did. -/
def natDivisorsUptoRow : OpenClaim := { program := "ytkbjfdfooompbaa", sum := "4b6b858d9d4fd53733fa8ca376aa1699750f6ce6a5ace493517f053feda480d9", func := "fulcrum/fulcrumlaw01.NatDivisors", spec := "natDivisors", apart := false, narrowed := true }
def NatDivisorsUptoSaid : Prop := natDivisorsUptoRow.holds Try.pinned (OpenSpec.upto natDivisorsSpec)

/-- 'fulcrumlaw01.NatBits', WHERE WHAT IT READS IS OF BULK AT MOST 1048576: true; the input reads as it did. -/
def natBitsUptoRow : OpenClaim := { program := "ytkbjfdfooompbaa", sum := "4b6b858d9d4fd53733fa8ca376aa1699750f6ce6a5ace493517f053feda480d9", func := "fulcrum/fulcrumlaw01.NatBits", spec := "natBits", apart := false, narrowed := true }
def NatBitsUptoSaid : Prop := natBitsUptoRow.holds Try.pinned (OpenSpec.upto natBitsSpec)

end Rows
end Go.Proofs.Ytkbjfdfooompbaa
