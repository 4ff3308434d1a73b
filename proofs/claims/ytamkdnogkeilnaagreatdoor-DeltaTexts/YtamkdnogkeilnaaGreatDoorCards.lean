/-
  DERIVED. GIVEN WITH THE SEED: THE CARDS: each row of YtamkdnogkeilnaaGreatDoorRows.lean that lists a variable, with what it lists TIED to the program's text (the seventh form; the later family's looks); each row that meets fmt, with fmt's text TOLD by the authors' own Lean function (tested against real Go, not proved from fmt's source: count such statements apart). THE CARD IS WHAT COUNTS. Prove the row's statement (the work); the ties are given (YtamkdnogkeilnaaGreatDoorTie.lean); close each card by the builder's one call (the guide's Derived/Test/ToyasCard.lean, 'card_holds'). Laid BY PROGRAM, IN A SANDBOX (cutbox-door.mjs). By AI agents, Wed Nov 11 2026. No macro, syntax, notation, axiom, sorry.
-/
import Derived.Test.YtamkdnogkeilnaaGreatDoorRows
import GoSem.ClaimSeven
namespace Go.Proofs.YtamkdnogkeilnaaGreatDoor
namespace Rows

/-- THE TIED CARD OF 'fulcrumlaw05.DeltaTexts'. -/
def deltaTextsCard : Claim7 := { stood := { row := deltaTextsRow, standIns := [], harness := (true, "bbea396d45b1948c509458e5ca940f0880b4e559375ac8930d1894d100637f23"), looks := false }, kinds := [], alts := [], laidByText := true, laidKinds := [.data, .data, .pinned], laidTests := true, laidLooks := .later }
def DeltaTextsCardSaid : Prop := Claim7.holds Tryz.pinned (.plain (OpenSpec.ofChange deltaTextsSpec)) deltaTextsCard

/-- THE SECOND FORM's CARD OF 'fulcrumlaw05.DeltaTexts'. -/
def deltaTextsUptoCard : Claim7 := { stood := { row := deltaTextsUptoRow, standIns := [], harness := (true, "bbea396d45b1948c509458e5ca940f0880b4e559375ac8930d1894d100637f23"), looks := false }, kinds := [], alts := [], laidByText := true, laidKinds := [.data, .data, .pinned], laidTests := true, laidLooks := .later }
def DeltaTextsUptoCardSaid : Prop := Claim7.holds Tryz.pinned (.plain (OpenSpec.upto deltaTextsSpec)) deltaTextsUptoCard
end Rows
end Go.Proofs.YtamkdnogkeilnaaGreatDoor
