/-
  DERIVED. GIVEN WITH THE SEED: THE CARDS: each row of YtggblpbcphgnoaaGreatDoorRows.lean that lists a variable, with what it lists TIED to the program's text (the seventh form; the later family's looks); each row that meets fmt, with fmt's text TOLD by the authors' own Lean function (tested against real Go, not proved from fmt's source: count such statements apart). THE CARD IS WHAT COUNTS. Prove the row's statement (the work); the ties are given (YtggblpbcphgnoaaGreatDoorTie.lean); close each card by the builder's one call (the guide's Derived/Test/ToyasCard.lean, 'card_holds'). Laid BY PROGRAM, IN A SANDBOX (cutbox-door.mjs). By AI agents, Wed Nov 11 2026. No macro, syntax, notation, axiom, sorry.
-/
import Derived.Test.YtggblpbcphgnoaaGreatDoorRows
import GoSem.ClaimSeven
namespace Go.Proofs.YtggblpbcphgnoaaGreatDoor
namespace Rows

/-- THE TIED CARD OF 'fulcrumlaw05.DeltaNorms'. -/
def deltaNormsCard : Claim7 := { stood := { row := deltaNormsRow, standIns := [], harness := (true, "bf88a4400ec1ac4f350ad471c7658af1e6de68288c8f5f9c440181825a0132cd"), looks := false }, kinds := [], alts := [], laidByText := true, laidKinds := [.data, .data, .pinned], laidTests := true, laidLooks := .later }
def DeltaNormsCardSaid : Prop := Claim7.holds Tryz.pinned (.plain (OpenSpec.ofChange deltaNormsSpec)) deltaNormsCard

/-- THE SECOND FORM's CARD OF 'fulcrumlaw05.DeltaNorms'. -/
def deltaNormsUptoCard : Claim7 := { stood := { row := deltaNormsUptoRow, standIns := [], harness := (true, "bf88a4400ec1ac4f350ad471c7658af1e6de68288c8f5f9c440181825a0132cd"), looks := false }, kinds := [], alts := [], laidByText := true, laidKinds := [.data, .data, .pinned], laidTests := true, laidLooks := .later }
def DeltaNormsUptoCardSaid : Prop := Claim7.holds Tryz.pinned (.plain (OpenSpec.upto deltaNormsSpec)) deltaNormsUptoCard
end Rows
end Go.Proofs.YtggblpbcphgnoaaGreatDoor
