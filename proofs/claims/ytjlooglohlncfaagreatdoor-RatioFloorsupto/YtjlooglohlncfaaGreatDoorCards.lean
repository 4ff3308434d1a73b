/-
  DERIVED. GIVEN WITH THE SEED: THE CARDS: each row of YtjlooglohlncfaaGreatDoorRows.lean that lists a variable, with what it lists TIED to the program's text (the seventh form; the later family's looks); each row that meets fmt, with fmt's text TOLD by the authors' own Lean function (tested against real Go, not proved from fmt's source: count such statements apart). THE CARD IS WHAT COUNTS. Prove the row's statement (the work); the ties are given (YtjlooglohlncfaaGreatDoorTie.lean); close each card by the builder's one call (the guide's Derived/Test/ToyasCard.lean, 'card_holds'). Laid BY PROGRAM, IN A SANDBOX (cutbox-door.mjs). By AI agents, Wed Nov 11 2026. No macro, syntax, notation, axiom, sorry.
-/
import Derived.Test.YtjlooglohlncfaaGreatDoorRows
import GoSem.ClaimSeven
namespace Go.Proofs.YtjlooglohlncfaaGreatDoor
namespace Rows

/-- THE TIED CARD OF 'fulcrumlaw03.RatioNorms'. -/
def ratioNormsCard : Claim7 := { stood := { row := ratioNormsRow, standIns := [], harness := (true, "6164af6dbfcc9f488fb3caf266d45a73670ec518aa7515db4c83b33702215542"), looks := false }, kinds := [], alts := [], laidByText := true, laidKinds := [.data], laidTests := true, laidLooks := .later }
def RatioNormsCardSaid : Prop := Claim7.holds Tryz.pinned (.plain (OpenSpec.ofChange ratioNormsSpec)) ratioNormsCard

/-- THE TIED CARD OF 'fulcrumlaw03.RatioFloors'. -/
def ratioFloorsCard : Claim7 := { stood := { row := ratioFloorsRow, standIns := [], harness := (true, "6164af6dbfcc9f488fb3caf266d45a73670ec518aa7515db4c83b33702215542"), looks := false }, kinds := [], alts := [], laidByText := true, laidKinds := [.data], laidTests := true, laidLooks := .later }
def RatioFloorsCardSaid : Prop := Claim7.holds Tryz.pinned (.plain (OpenSpec.ofChange ratioFloorsSpec)) ratioFloorsCard

/-- THE SECOND FORM's CARD OF 'fulcrumlaw03.RatioNorms'. -/
def ratioNormsUptoCard : Claim7 := { stood := { row := ratioNormsUptoRow, standIns := [], harness := (true, "6164af6dbfcc9f488fb3caf266d45a73670ec518aa7515db4c83b33702215542"), looks := false }, kinds := [], alts := [], laidByText := true, laidKinds := [.data], laidTests := true, laidLooks := .later }
def RatioNormsUptoCardSaid : Prop := Claim7.holds Tryz.pinned (.plain (OpenSpec.upto ratioNormsSpec)) ratioNormsUptoCard

/-- THE SECOND FORM's CARD OF 'fulcrumlaw03.RatioFloors'. -/
def ratioFloorsUptoCard : Claim7 := { stood := { row := ratioFloorsUptoRow, standIns := [], harness := (true, "6164af6dbfcc9f488fb3caf266d45a73670ec518aa7515db4c83b33702215542"), looks := false }, kinds := [], alts := [], laidByText := true, laidKinds := [.data], laidTests := true, laidLooks := .later }
def RatioFloorsUptoCardSaid : Prop := Claim7.holds Tryz.pinned (.plain (OpenSpec.upto ratioFloorsSpec)) ratioFloorsUptoCard
end Rows
end Go.Proofs.YtjlooglohlncfaaGreatDoor
