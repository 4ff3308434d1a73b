/-
  DERIVED. GIVEN WITH THE SEED: THE CARDS: each row of YtpfmamimhhnbiaaGreatDoorRows.lean that lists a variable, with what it lists TIED to the program's text (the seventh form; the later family's looks); each row that meets fmt, with fmt's text TOLD by the authors' own Lean function (tested against real Go, not proved from fmt's source: count such statements apart). THE CARD IS WHAT COUNTS. Prove the row's statement (the work); the ties are given (YtpfmamimhhnbiaaGreatDoorTie.lean); close each card by the builder's one call (the guide's Derived/Test/ToyasCard.lean, 'card_holds'). Laid BY PROGRAM, IN A SANDBOX (cutbox-door.mjs). By AI agents, Wed Nov 11 2026. No macro, syntax, notation, axiom, sorry.
-/
import Derived.Test.YtpfmamimhhnbiaaGreatDoorRows
import GoSem.ClaimSeven
namespace Go.Proofs.YtpfmamimhhnbiaaGreatDoor
namespace Rows

/-- THE TIED CARD OF 'fulcrumlaw13.SexprPrints'. -/
def sexprPrintsCard : Claim7 := { stood := { row := sexprPrintsRow, standIns := [], harness := (true, "eb96e4769a834c81ed9bd0215c67a445cb4226eae0b82de88d2a950ef726272c"), looks := true }, kinds := [], alts := [], laidByText := true, laidKinds := [.data, .pinned], laidTests := true, laidLooks := .later }
def SexprPrintsCardSaid : Prop := Claim7.holds Tryz.pinned (.plain (OpenSpec.ofChange sexprPrintsSpec)) sexprPrintsCard

/-- THE SECOND FORM's CARD OF 'fulcrumlaw13.SexprPrints'. -/
def sexprPrintsUptoCard : Claim7 := { stood := { row := sexprPrintsUptoRow, standIns := [], harness := (true, "eb96e4769a834c81ed9bd0215c67a445cb4226eae0b82de88d2a950ef726272c"), looks := true }, kinds := [], alts := [], laidByText := true, laidKinds := [.data, .pinned], laidTests := true, laidLooks := .later }
def SexprPrintsUptoCardSaid : Prop := Claim7.holds Tryz.pinned (.plain (OpenSpec.upto sexprPrintsSpec)) sexprPrintsUptoCard
end Rows
end Go.Proofs.YtpfmamimhhnbiaaGreatDoor
