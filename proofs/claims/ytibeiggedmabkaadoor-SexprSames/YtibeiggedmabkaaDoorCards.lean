/-
  DERIVED. GIVEN WITH THE SEED: THE CARDS: each row of YtibeiggedmabkaaDoorRows.lean that lists a variable, with what it lists TIED to the program's text (the seventh form; the later family's looks); each row that meets fmt, with fmt's text TOLD by the authors' own Lean function (tested against real Go, not proved from fmt's source: count such statements apart). THE CARD IS WHAT COUNTS. Prove the row's statement (the work); the ties are given (YtibeiggedmabkaaDoorTie.lean); close each card by the builder's one call (the guide's Derived/Test/ToyasCard.lean, 'card_holds'). Laid BY PROGRAM, IN A SANDBOX (cutbox-door.mjs). By AI agents, Wed Nov 11 2026. No macro, syntax, notation, axiom, sorry.
-/
import Derived.Test.YtibeiggedmabkaaDoorRows
import GoSem.ClaimSeven
namespace Go.Proofs.YtibeiggedmabkaaDoor
namespace Rows

/-- THE TIED CARD OF 'fulcrumlaw13.SexprReads'. -/
def sexprReadsCard : Claim7 := { stood := { row := sexprReadsRow, standIns := [], harness := (true, "18915c881bed6f7fc195f1b6ae4cb71b44b4f8745b737dd9d637e509538027b9"), looks := true }, kinds := [], alts := [], laidByText := true, laidKinds := [.data, .pinned], laidTests := true, laidLooks := .later }
def SexprReadsCardSaid : Prop := Claim7.holds Tryd.pinned (.plain (OpenSpec.ofChange sexprReadsSpec)) sexprReadsCard

/-- THE TIED CARD OF 'fulcrumlaw13.SexprDeep'. -/
def sexprDeepCard : Claim7 := { stood := { row := sexprDeepRow, standIns := [], harness := (true, "18915c881bed6f7fc195f1b6ae4cb71b44b4f8745b737dd9d637e509538027b9"), looks := true }, kinds := [], alts := [], laidByText := true, laidKinds := [.data, .pinned], laidTests := true, laidLooks := .later }
def SexprDeepCardSaid : Prop := Claim7.holds Tryd.pinned (.plain (OpenSpec.ofChange sexprDeepSpec)) sexprDeepCard

/-- THE TIED CARD OF 'fulcrumlaw13.SexprSames'. -/
def sexprSamesCard : Claim7 := { stood := { row := sexprSamesRow, standIns := [], harness := (true, "18915c881bed6f7fc195f1b6ae4cb71b44b4f8745b737dd9d637e509538027b9"), looks := true }, kinds := [], alts := [], laidByText := true, laidKinds := [.data, .pinned], laidTests := true, laidLooks := .later }
def SexprSamesCardSaid : Prop := Claim7.holds Tryd.pinned (.plain (OpenSpec.ofChange sexprSamesSpec)) sexprSamesCard

/-- THE TIED CARD OF 'fulcrumlaw13.SexprPlays'. -/
def sexprPlaysCard : Claim7 := { stood := { row := sexprPlaysRow, standIns := [], harness := (true, "18915c881bed6f7fc195f1b6ae4cb71b44b4f8745b737dd9d637e509538027b9"), looks := true }, kinds := [], alts := [], laidByText := true, laidKinds := [.data, .pinned], laidTests := true, laidLooks := .later }
def SexprPlaysCardSaid : Prop := Claim7.holds Tryd.pinned (.plain (OpenSpec.ofChange sexprPlaysSpec)) sexprPlaysCard

/-- THE TIED CARD OF 'fulcrumlaw13.SexprPieces'. -/
def sexprPiecesCard : Claim7 := { stood := { row := sexprPiecesRow, standIns := [], harness := (true, "18915c881bed6f7fc195f1b6ae4cb71b44b4f8745b737dd9d637e509538027b9"), looks := true }, kinds := [], alts := [], laidByText := true, laidKinds := [.data, .pinned], laidTests := true, laidLooks := .later }
def SexprPiecesCardSaid : Prop := Claim7.holds Tryd.pinned (.plain (OpenSpec.ofChange sexprPiecesSpec)) sexprPiecesCard

/-- THE TIED CARD OF 'fulcrumlaw13.SexprApart'. -/
def sexprApartCard : Claim7 := { stood := { row := sexprApartRow, standIns := [], harness := (true, "18915c881bed6f7fc195f1b6ae4cb71b44b4f8745b737dd9d637e509538027b9"), looks := true }, kinds := [], alts := [], laidByText := true, laidKinds := [.data, .pinned], laidTests := true, laidLooks := .later }
def SexprApartCardSaid : Prop := Claim7.holds Tryd.pinned (.plain (OpenSpec.ofChange sexprApartSpec)) sexprApartCard

/-- THE SECOND FORM's CARD OF 'fulcrumlaw13.SexprReads'. -/
def sexprReadsUptoCard : Claim7 := { stood := { row := sexprReadsUptoRow, standIns := [], harness := (true, "18915c881bed6f7fc195f1b6ae4cb71b44b4f8745b737dd9d637e509538027b9"), looks := true }, kinds := [], alts := [], laidByText := true, laidKinds := [.data, .pinned], laidTests := true, laidLooks := .later }
def SexprReadsUptoCardSaid : Prop := Claim7.holds Tryd.pinned (.plain (OpenSpec.upto sexprReadsSpec)) sexprReadsUptoCard

/-- THE SECOND FORM's CARD OF 'fulcrumlaw13.SexprDeep'. -/
def sexprDeepUptoCard : Claim7 := { stood := { row := sexprDeepUptoRow, standIns := [], harness := (true, "18915c881bed6f7fc195f1b6ae4cb71b44b4f8745b737dd9d637e509538027b9"), looks := true }, kinds := [], alts := [], laidByText := true, laidKinds := [.data, .pinned], laidTests := true, laidLooks := .later }
def SexprDeepUptoCardSaid : Prop := Claim7.holds Tryd.pinned (.plain (OpenSpec.upto sexprDeepSpec)) sexprDeepUptoCard

/-- THE SECOND FORM's CARD OF 'fulcrumlaw13.SexprSames'. -/
def sexprSamesUptoCard : Claim7 := { stood := { row := sexprSamesUptoRow, standIns := [], harness := (true, "18915c881bed6f7fc195f1b6ae4cb71b44b4f8745b737dd9d637e509538027b9"), looks := true }, kinds := [], alts := [], laidByText := true, laidKinds := [.data, .pinned], laidTests := true, laidLooks := .later }
def SexprSamesUptoCardSaid : Prop := Claim7.holds Tryd.pinned (.plain (OpenSpec.upto sexprSamesSpec)) sexprSamesUptoCard

/-- THE SECOND FORM's CARD OF 'fulcrumlaw13.SexprPlays'. -/
def sexprPlaysUptoCard : Claim7 := { stood := { row := sexprPlaysUptoRow, standIns := [], harness := (true, "18915c881bed6f7fc195f1b6ae4cb71b44b4f8745b737dd9d637e509538027b9"), looks := true }, kinds := [], alts := [], laidByText := true, laidKinds := [.data, .pinned], laidTests := true, laidLooks := .later }
def SexprPlaysUptoCardSaid : Prop := Claim7.holds Tryd.pinned (.plain (OpenSpec.upto sexprPlaysSpec)) sexprPlaysUptoCard

/-- THE SECOND FORM's CARD OF 'fulcrumlaw13.SexprPieces'. -/
def sexprPiecesUptoCard : Claim7 := { stood := { row := sexprPiecesUptoRow, standIns := [], harness := (true, "18915c881bed6f7fc195f1b6ae4cb71b44b4f8745b737dd9d637e509538027b9"), looks := true }, kinds := [], alts := [], laidByText := true, laidKinds := [.data, .pinned], laidTests := true, laidLooks := .later }
def SexprPiecesUptoCardSaid : Prop := Claim7.holds Tryd.pinned (.plain (OpenSpec.upto sexprPiecesSpec)) sexprPiecesUptoCard

/-- THE SECOND FORM's CARD OF 'fulcrumlaw13.SexprApart'. -/
def sexprApartUptoCard : Claim7 := { stood := { row := sexprApartUptoRow, standIns := [], harness := (true, "18915c881bed6f7fc195f1b6ae4cb71b44b4f8745b737dd9d637e509538027b9"), looks := true }, kinds := [], alts := [], laidByText := true, laidKinds := [.data, .pinned], laidTests := true, laidLooks := .later }
def SexprApartUptoCardSaid : Prop := Claim7.holds Tryd.pinned (.plain (OpenSpec.upto sexprApartSpec)) sexprApartUptoCard
end Rows
end Go.Proofs.YtibeiggedmabkaaDoor
