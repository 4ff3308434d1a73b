/-
  DERIVED. GIVEN WITH THE SEED: THE CARDS: each row of YtnifelfecildmaaGreatDoorRows.lean that lists a variable, with what it lists TIED to the program's text (the seventh form; the later family's looks); each row that meets fmt, with fmt's text TOLD by the authors' own Lean function (tested against real Go, not proved from fmt's source: count such statements apart). THE CARD IS WHAT COUNTS. Prove the row's statement (the work); the ties are given (YtnifelfecildmaaGreatDoorTie.lean); close each card by the builder's one call (the guide's Derived/Test/ToyasCard.lean, 'card_holds'). Laid BY PROGRAM, IN A SANDBOX (cutbox-door.mjs). By AI agents, Wed Nov 11 2026. No macro, syntax, notation, axiom, sorry.
-/
import Derived.Test.YtnifelfecildmaaGreatDoorRows
import GoSem.ClaimSeven
namespace Go.Proofs.YtnifelfecildmaaGreatDoor
namespace Rows

/-- THE TIED CARD OF 'fulcrumlaw05.DeltaSmalls'. -/
def deltaSmallsCard : Claim7 := { stood := { row := deltaSmallsRow, standIns := [], harness := (true, "5e5f25f7b54a1ca9819aa8ef4bd8ed0ba1d468ad820c835900a5e76461be7889"), looks := false }, kinds := [], alts := [], laidByText := true, laidKinds := [.data, .data, .pinned], laidTests := true, laidLooks := .later }
def DeltaSmallsCardSaid : Prop := Claim7.holds Tryz.pinned (.plain (OpenSpec.ofChange deltaSmallsSpec)) deltaSmallsCard

/-- THE TIED CARD OF 'fulcrumlaw05.DeltaKeeps'. -/
def deltaKeepsCard : Claim7 := { stood := { row := deltaKeepsRow, standIns := [], harness := (true, "5e5f25f7b54a1ca9819aa8ef4bd8ed0ba1d468ad820c835900a5e76461be7889"), looks := false }, kinds := [], alts := [], laidByText := true, laidKinds := [.data, .data, .pinned], laidTests := true, laidLooks := .later }
def DeltaKeepsCardSaid : Prop := Claim7.holds Tryz.pinned (.plain (OpenSpec.ofChange deltaKeepsSpec)) deltaKeepsCard

/-- THE TIED CARD OF 'fulcrumlaw05.DeltaGreatest'. -/
def deltaGreatestCard : Claim7 := { stood := { row := deltaGreatestRow, standIns := [], harness := (true, "5e5f25f7b54a1ca9819aa8ef4bd8ed0ba1d468ad820c835900a5e76461be7889"), looks := false }, kinds := [], alts := [], laidByText := true, laidKinds := [.data, .data, .pinned], laidTests := true, laidLooks := .later }
def DeltaGreatestCardSaid : Prop := Claim7.holds Tryz.pinned (.plain (OpenSpec.ofChange deltaGreatestSpec)) deltaGreatestCard

/-- THE TIED CARD OF 'fulcrumlaw05.DeltaTells'. -/
def deltaTellsCard : Claim7 := { stood := { row := deltaTellsRow, standIns := [], harness := (true, "5e5f25f7b54a1ca9819aa8ef4bd8ed0ba1d468ad820c835900a5e76461be7889"), looks := false }, kinds := [], alts := [], laidByText := true, laidKinds := [.data, .data, .pinned], laidTests := true, laidLooks := .later }
def DeltaTellsCardSaid : Prop := Claim7.holds Tryz.pinned (.plain (OpenSpec.ofChange deltaTellsSpec)) deltaTellsCard

/-- THE SECOND FORM's CARD OF 'fulcrumlaw05.DeltaSmalls'. -/
def deltaSmallsUptoCard : Claim7 := { stood := { row := deltaSmallsUptoRow, standIns := [], harness := (true, "5e5f25f7b54a1ca9819aa8ef4bd8ed0ba1d468ad820c835900a5e76461be7889"), looks := false }, kinds := [], alts := [], laidByText := true, laidKinds := [.data, .data, .pinned], laidTests := true, laidLooks := .later }
def DeltaSmallsUptoCardSaid : Prop := Claim7.holds Tryz.pinned (.plain (OpenSpec.upto deltaSmallsSpec)) deltaSmallsUptoCard

/-- THE SECOND FORM's CARD OF 'fulcrumlaw05.DeltaKeeps'. -/
def deltaKeepsUptoCard : Claim7 := { stood := { row := deltaKeepsUptoRow, standIns := [], harness := (true, "5e5f25f7b54a1ca9819aa8ef4bd8ed0ba1d468ad820c835900a5e76461be7889"), looks := false }, kinds := [], alts := [], laidByText := true, laidKinds := [.data, .data, .pinned], laidTests := true, laidLooks := .later }
def DeltaKeepsUptoCardSaid : Prop := Claim7.holds Tryz.pinned (.plain (OpenSpec.upto deltaKeepsSpec)) deltaKeepsUptoCard

/-- THE SECOND FORM's CARD OF 'fulcrumlaw05.DeltaGreatest'. -/
def deltaGreatestUptoCard : Claim7 := { stood := { row := deltaGreatestUptoRow, standIns := [], harness := (true, "5e5f25f7b54a1ca9819aa8ef4bd8ed0ba1d468ad820c835900a5e76461be7889"), looks := false }, kinds := [], alts := [], laidByText := true, laidKinds := [.data, .data, .pinned], laidTests := true, laidLooks := .later }
def DeltaGreatestUptoCardSaid : Prop := Claim7.holds Tryz.pinned (.plain (OpenSpec.upto deltaGreatestSpec)) deltaGreatestUptoCard

/-- THE SECOND FORM's CARD OF 'fulcrumlaw05.DeltaTells'. -/
def deltaTellsUptoCard : Claim7 := { stood := { row := deltaTellsUptoRow, standIns := [], harness := (true, "5e5f25f7b54a1ca9819aa8ef4bd8ed0ba1d468ad820c835900a5e76461be7889"), looks := false }, kinds := [], alts := [], laidByText := true, laidKinds := [.data, .data, .pinned], laidTests := true, laidLooks := .later }
def DeltaTellsUptoCardSaid : Prop := Claim7.holds Tryz.pinned (.plain (OpenSpec.upto deltaTellsSpec)) deltaTellsUptoCard
end Rows
end Go.Proofs.YtnifelfecildmaaGreatDoor
