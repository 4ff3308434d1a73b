/-
  DERIVED. GIVEN WITH THE SEED: THE CARDS: each row of YtgoocgecigkblaaGreatDoorRows.lean that lists a variable, with what it lists TIED to the program's text (the seventh form; the later family's looks); each row that meets fmt, with fmt's text TOLD by the authors' own Lean function (tested against real Go, not proved from fmt's source: count such statements apart). THE CARD IS WHAT COUNTS. Prove the row's statement (the work); the ties are given (YtgoocgecigkblaaGreatDoorTie.lean); close each card by the builder's one call (the guide's Derived/Test/ToyasCard.lean, 'card_holds'). Laid BY PROGRAM, IN A SANDBOX (cutbox-door.mjs). By AI agents, Wed Nov 11 2026. No macro, syntax, notation, axiom, sorry.
-/
import Derived.Test.YtgoocgecigkblaaGreatDoorRows
import GoSem.ClaimSeven
namespace Go.Proofs.YtgoocgecigkblaaGreatDoor
namespace Rows

/-- THE TIED CARD OF 'fulcrumlaw03.RatioNorms'. -/
def ratioNormsCard : Claim7 := { stood := { row := ratioNormsRow, standIns := [], harness := (true, "69d23463f28fa7d324c5240955e6d9fcb948d668d68f517475d850416cc7ccd4"), looks := false }, kinds := [], alts := [], laidByText := true, laidKinds := [.data], laidTests := true, laidLooks := .later }
def RatioNormsCardSaid : Prop := Claim7.holds Tryz.pinned (.plain (OpenSpec.ofChange ratioNormsSpec)) ratioNormsCard

/-- THE TIED CARD OF 'fulcrumlaw03.RatioFloors'. -/
def ratioFloorsCard : Claim7 := { stood := { row := ratioFloorsRow, standIns := [], harness := (true, "69d23463f28fa7d324c5240955e6d9fcb948d668d68f517475d850416cc7ccd4"), looks := false }, kinds := [], alts := [], laidByText := true, laidKinds := [.data], laidTests := true, laidLooks := .later }
def RatioFloorsCardSaid : Prop := Claim7.holds Tryz.pinned (.plain (OpenSpec.ofChange ratioFloorsSpec)) ratioFloorsCard

/-- THE TIED CARD OF 'fulcrumlaw03.RatioFloorLeast'. -/
def ratioFloorLeastCard : Claim7 := { stood := { row := ratioFloorLeastRow, standIns := [], harness := (true, "69d23463f28fa7d324c5240955e6d9fcb948d668d68f517475d850416cc7ccd4"), looks := false }, kinds := [], alts := [], laidByText := true, laidKinds := [.data], laidTests := true, laidLooks := .later }
def RatioFloorLeastCardSaid : Prop := Claim7.holds Tryz.pinned (.plain (OpenSpec.ofChange ratioFloorLeastSpec)) ratioFloorLeastCard

/-- THE SECOND FORM's CARD OF 'fulcrumlaw03.RatioNorms'. -/
def ratioNormsUptoCard : Claim7 := { stood := { row := ratioNormsUptoRow, standIns := [], harness := (true, "69d23463f28fa7d324c5240955e6d9fcb948d668d68f517475d850416cc7ccd4"), looks := false }, kinds := [], alts := [], laidByText := true, laidKinds := [.data], laidTests := true, laidLooks := .later }
def RatioNormsUptoCardSaid : Prop := Claim7.holds Tryz.pinned (.plain (OpenSpec.upto ratioNormsSpec)) ratioNormsUptoCard

/-- THE SECOND FORM's CARD OF 'fulcrumlaw03.RatioFloors'. -/
def ratioFloorsUptoCard : Claim7 := { stood := { row := ratioFloorsUptoRow, standIns := [], harness := (true, "69d23463f28fa7d324c5240955e6d9fcb948d668d68f517475d850416cc7ccd4"), looks := false }, kinds := [], alts := [], laidByText := true, laidKinds := [.data], laidTests := true, laidLooks := .later }
def RatioFloorsUptoCardSaid : Prop := Claim7.holds Tryz.pinned (.plain (OpenSpec.upto ratioFloorsSpec)) ratioFloorsUptoCard

/-- THE SECOND FORM's CARD OF 'fulcrumlaw03.RatioFloorLeast'. -/
def ratioFloorLeastUptoCard : Claim7 := { stood := { row := ratioFloorLeastUptoRow, standIns := [], harness := (true, "69d23463f28fa7d324c5240955e6d9fcb948d668d68f517475d850416cc7ccd4"), looks := false }, kinds := [], alts := [], laidByText := true, laidKinds := [.data], laidTests := true, laidLooks := .later }
def RatioFloorLeastUptoCardSaid : Prop := Claim7.holds Tryz.pinned (.plain (OpenSpec.upto ratioFloorLeastSpec)) ratioFloorLeastUptoCard
end Rows
end Go.Proofs.YtgoocgecigkblaaGreatDoor
