/-
  DERIVED. GIVEN WITH THE SEED: THE CARDS: each row of YtjbeagbkjmaeeaaGreatDoorRows.lean that lists a variable, with what it lists TIED to the program's text (the seventh form; the later family's looks); each row that meets fmt, with fmt's text TOLD by the authors' own Lean function (tested against real Go, not proved from fmt's source: count such statements apart). THE CARD IS WHAT COUNTS. Prove the row's statement (the work); the ties are given (YtjbeagbkjmaeeaaGreatDoorTie.lean); close each card by the builder's one call (the guide's Derived/Test/ToyasCard.lean, 'card_holds'). Laid BY PROGRAM, IN A SANDBOX (cutbox-door.mjs). By AI agents, Wed Nov 11 2026. No macro, syntax, notation, axiom, sorry.
-/
import Derived.Test.YtjbeagbkjmaeeaaGreatDoorRows
import GoSem.ClaimSeven
namespace Go.Proofs.YtjbeagbkjmaeeaaGreatDoor
namespace Rows

/-- THE TIED CARD OF 'fulcrumlaw05.DeltaReads'. -/
def deltaReadsCard : Claim7 := { stood := { row := deltaReadsRow, standIns := [], harness := (true, "ee771e8f67f5a8bce10b3d952db505938b8cc32244288d9ca5db2c75df0f8621"), looks := false }, kinds := [], alts := [], laidByText := true, laidKinds := [.data, .data, .pinned], laidTests := true, laidLooks := .later }
def DeltaReadsCardSaid : Prop := Claim7.holds Tryz.pinned (.plain (OpenSpec.ofChange deltaReadsSpec)) deltaReadsCard

/-- THE SECOND FORM's CARD OF 'fulcrumlaw05.DeltaReads'. -/
def deltaReadsUptoCard : Claim7 := { stood := { row := deltaReadsUptoRow, standIns := [], harness := (true, "ee771e8f67f5a8bce10b3d952db505938b8cc32244288d9ca5db2c75df0f8621"), looks := false }, kinds := [], alts := [], laidByText := true, laidKinds := [.data, .data, .pinned], laidTests := true, laidLooks := .later }
def DeltaReadsUptoCardSaid : Prop := Claim7.holds Tryz.pinned (.plain (OpenSpec.upto deltaReadsSpec)) deltaReadsUptoCard
end Rows
end Go.Proofs.YtjbeagbkjmaeeaaGreatDoor
