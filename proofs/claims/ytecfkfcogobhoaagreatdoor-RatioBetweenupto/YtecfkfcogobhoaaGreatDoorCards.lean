/-
  DERIVED. GIVEN WITH THE SEED: THE CARDS: each row of YtecfkfcogobhoaaGreatDoorRows.lean that lists a variable, with what it lists TIED to the program's text (the seventh form; the later family's looks); each row that meets fmt, with fmt's text TOLD by the authors' own Lean function (tested against real Go, not proved from fmt's source: count such statements apart). THE CARD IS WHAT COUNTS. Prove the row's statement (the work); the ties are given (YtecfkfcogobhoaaGreatDoorTie.lean); close each card by the builder's one call (the guide's Derived/Test/ToyasCard.lean, 'card_holds'). Laid BY PROGRAM, IN A SANDBOX (cutbox-door.mjs). By AI agents, Wed Nov 11 2026. No macro, syntax, notation, axiom, sorry.
-/
import Derived.Test.YtecfkfcogobhoaaGreatDoorRows
import GoSem.ClaimSeven
namespace Go.Proofs.YtecfkfcogobhoaaGreatDoor
namespace Rows

/-- THE TIED CARD OF 'fulcrumlaw03.RatioBetween'. -/
def ratioBetweenCard : Claim7 := { stood := { row := ratioBetweenRow, standIns := [], harness := (true, "f186e3333a9f76a6277b66c0ba254e3f8bd2c8ea2e2e2e5638546db529ae3c89"), looks := false }, kinds := [], alts := [], laidByText := true, laidKinds := [.data], laidTests := true, laidLooks := .later }
def RatioBetweenCardSaid : Prop := Claim7.holds Tryz.pinned (.plain (OpenSpec.ofChange ratioBetweenSpec)) ratioBetweenCard

/-- THE TIED CARD OF 'fulcrumlaw03.RatioLeast'. -/
def ratioLeastCard : Claim7 := { stood := { row := ratioLeastRow, standIns := [], harness := (true, "f186e3333a9f76a6277b66c0ba254e3f8bd2c8ea2e2e2e5638546db529ae3c89"), looks := false }, kinds := [], alts := [], laidByText := true, laidKinds := [.data], laidTests := true, laidLooks := .later }
def RatioLeastCardSaid : Prop := Claim7.holds Tryz.pinned (.plain (OpenSpec.ofChange ratioLeastSpec)) ratioLeastCard

/-- THE SECOND FORM's CARD OF 'fulcrumlaw03.RatioBetween'. -/
def ratioBetweenUptoCard : Claim7 := { stood := { row := ratioBetweenUptoRow, standIns := [], harness := (true, "f186e3333a9f76a6277b66c0ba254e3f8bd2c8ea2e2e2e5638546db529ae3c89"), looks := false }, kinds := [], alts := [], laidByText := true, laidKinds := [.data], laidTests := true, laidLooks := .later }
def RatioBetweenUptoCardSaid : Prop := Claim7.holds Tryz.pinned (.plain (OpenSpec.upto ratioBetweenSpec)) ratioBetweenUptoCard

/-- THE SECOND FORM's CARD OF 'fulcrumlaw03.RatioLeast'. -/
def ratioLeastUptoCard : Claim7 := { stood := { row := ratioLeastUptoRow, standIns := [], harness := (true, "f186e3333a9f76a6277b66c0ba254e3f8bd2c8ea2e2e2e5638546db529ae3c89"), looks := false }, kinds := [], alts := [], laidByText := true, laidKinds := [.data], laidTests := true, laidLooks := .later }
def RatioLeastUptoCardSaid : Prop := Claim7.holds Tryz.pinned (.plain (OpenSpec.upto ratioLeastSpec)) ratioLeastUptoCard
end Rows
end Go.Proofs.YtecfkfcogobhoaaGreatDoor
