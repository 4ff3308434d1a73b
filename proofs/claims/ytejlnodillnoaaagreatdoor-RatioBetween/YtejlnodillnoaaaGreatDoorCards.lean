/-
  DERIVED. GIVEN WITH THE SEED: THE CARDS: each row of YtejlnodillnoaaaGreatDoorRows.lean that lists a variable, with what it lists TIED to the program's text (the seventh form; the later family's looks); each row that meets fmt, with fmt's text TOLD by the authors' own Lean function (tested against real Go, not proved from fmt's source: count such statements apart). THE CARD IS WHAT COUNTS. Prove the row's statement (the work); the ties are given (YtejlnodillnoaaaGreatDoorTie.lean); close each card by the builder's one call (the guide's Derived/Test/ToyasCard.lean, 'card_holds'). Laid BY PROGRAM, IN A SANDBOX (cutbox-door.mjs). By AI agents, Wed Nov 11 2026. No macro, syntax, notation, axiom, sorry.
-/
import Derived.Test.YtejlnodillnoaaaGreatDoorRows
import GoSem.ClaimSeven
namespace Go.Proofs.YtejlnodillnoaaaGreatDoor
namespace Rows

/-- THE TIED CARD OF 'fulcrumlaw03.RatioBetween'. -/
def ratioBetweenCard : Claim7 := { stood := { row := ratioBetweenRow, standIns := [], harness := (true, "794f7b17095299e8b88440b8622c0e17e6b3cf28cbec04f1ebb0233699872982"), looks := false }, kinds := [], alts := [], laidByText := true, laidKinds := [.data], laidTests := true, laidLooks := .later }
def RatioBetweenCardSaid : Prop := Claim7.holds Tryz.pinned (.plain (OpenSpec.ofChange ratioBetweenSpec)) ratioBetweenCard

/-- THE TIED CARD OF 'fulcrumlaw03.RatioLeast'. -/
def ratioLeastCard : Claim7 := { stood := { row := ratioLeastRow, standIns := [], harness := (true, "794f7b17095299e8b88440b8622c0e17e6b3cf28cbec04f1ebb0233699872982"), looks := false }, kinds := [], alts := [], laidByText := true, laidKinds := [.data], laidTests := true, laidLooks := .later }
def RatioLeastCardSaid : Prop := Claim7.holds Tryz.pinned (.plain (OpenSpec.ofChange ratioLeastSpec)) ratioLeastCard

/-- THE TIED CARD OF 'fulcrumlaw03.RatioNearest'. -/
def ratioNearestCard : Claim7 := { stood := { row := ratioNearestRow, standIns := [], harness := (true, "794f7b17095299e8b88440b8622c0e17e6b3cf28cbec04f1ebb0233699872982"), looks := false }, kinds := [], alts := [], laidByText := true, laidKinds := [.data], laidTests := true, laidLooks := .later }
def RatioNearestCardSaid : Prop := Claim7.holds Tryz.pinned (.plain (OpenSpec.ofChange ratioNearestSpec)) ratioNearestCard

/-- THE TIED CARD OF 'fulcrumlaw03.RatioCloser'. -/
def ratioCloserCard : Claim7 := { stood := { row := ratioCloserRow, standIns := [], harness := (true, "794f7b17095299e8b88440b8622c0e17e6b3cf28cbec04f1ebb0233699872982"), looks := false }, kinds := [], alts := [], laidByText := true, laidKinds := [.data], laidTests := true, laidLooks := .later }
def RatioCloserCardSaid : Prop := Claim7.holds Tryz.pinned (.plain (OpenSpec.ofChange ratioCloserSpec)) ratioCloserCard

/-- THE SECOND FORM's CARD OF 'fulcrumlaw03.RatioBetween'. -/
def ratioBetweenUptoCard : Claim7 := { stood := { row := ratioBetweenUptoRow, standIns := [], harness := (true, "794f7b17095299e8b88440b8622c0e17e6b3cf28cbec04f1ebb0233699872982"), looks := false }, kinds := [], alts := [], laidByText := true, laidKinds := [.data], laidTests := true, laidLooks := .later }
def RatioBetweenUptoCardSaid : Prop := Claim7.holds Tryz.pinned (.plain (OpenSpec.upto ratioBetweenSpec)) ratioBetweenUptoCard

/-- THE SECOND FORM's CARD OF 'fulcrumlaw03.RatioLeast'. -/
def ratioLeastUptoCard : Claim7 := { stood := { row := ratioLeastUptoRow, standIns := [], harness := (true, "794f7b17095299e8b88440b8622c0e17e6b3cf28cbec04f1ebb0233699872982"), looks := false }, kinds := [], alts := [], laidByText := true, laidKinds := [.data], laidTests := true, laidLooks := .later }
def RatioLeastUptoCardSaid : Prop := Claim7.holds Tryz.pinned (.plain (OpenSpec.upto ratioLeastSpec)) ratioLeastUptoCard

/-- THE SECOND FORM's CARD OF 'fulcrumlaw03.RatioNearest'. -/
def ratioNearestUptoCard : Claim7 := { stood := { row := ratioNearestUptoRow, standIns := [], harness := (true, "794f7b17095299e8b88440b8622c0e17e6b3cf28cbec04f1ebb0233699872982"), looks := false }, kinds := [], alts := [], laidByText := true, laidKinds := [.data], laidTests := true, laidLooks := .later }
def RatioNearestUptoCardSaid : Prop := Claim7.holds Tryz.pinned (.plain (OpenSpec.upto ratioNearestSpec)) ratioNearestUptoCard

/-- THE SECOND FORM's CARD OF 'fulcrumlaw03.RatioCloser'. -/
def ratioCloserUptoCard : Claim7 := { stood := { row := ratioCloserUptoRow, standIns := [], harness := (true, "794f7b17095299e8b88440b8622c0e17e6b3cf28cbec04f1ebb0233699872982"), looks := false }, kinds := [], alts := [], laidByText := true, laidKinds := [.data], laidTests := true, laidLooks := .later }
def RatioCloserUptoCardSaid : Prop := Claim7.holds Tryz.pinned (.plain (OpenSpec.upto ratioCloserSpec)) ratioCloserUptoCard
end Rows
end Go.Proofs.YtejlnodillnoaaaGreatDoor
