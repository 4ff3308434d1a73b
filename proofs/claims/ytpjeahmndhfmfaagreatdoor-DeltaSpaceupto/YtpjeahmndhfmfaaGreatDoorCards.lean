/-
  DERIVED. GIVEN WITH THE SEED: THE CARDS: each row of YtpjeahmndhfmfaaGreatDoorRows.lean that lists a variable, with what it lists TIED to the program's text (the seventh form; the later family's looks); each row that meets fmt, with fmt's text TOLD by the authors' own Lean function (tested against real Go, not proved from fmt's source: count such statements apart). THE CARD IS WHAT COUNTS. Prove the row's statement (the work); the ties are given (YtpjeahmndhfmfaaGreatDoorTie.lean); close each card by the builder's one call (the guide's Derived/Test/ToyasCard.lean, 'card_holds'). Laid BY PROGRAM, IN A SANDBOX (cutbox-door.mjs). By AI agents, Wed Nov 11 2026. No macro, syntax, notation, axiom, sorry.
-/
import Derived.Test.YtpjeahmndhfmfaaGreatDoorRows
import GoSem.ClaimSeven
namespace Go.Proofs.YtpjeahmndhfmfaaGreatDoor
namespace Rows

/-- THE TIED CARD OF 'fulcrumlaw05.DeltaNorms'. -/
def deltaNormsCard : Claim7 := { stood := { row := deltaNormsRow, standIns := [], harness := (true, "7d2adadc6b694e5889f8ffa74b68ac253a149b1df0961128c7b6218fb2e1e1ee"), looks := false }, kinds := [], alts := [], laidByText := true, laidKinds := [.data, .data, .pinned], laidTests := true, laidLooks := .later }
def DeltaNormsCardSaid : Prop := Claim7.holds Tryz.pinned (.plain (OpenSpec.ofChange deltaNormsSpec)) deltaNormsCard

/-- THE TIED CARD OF 'fulcrumlaw05.DeltaSums'. -/
def deltaSumsCard : Claim7 := { stood := { row := deltaSumsRow, standIns := [], harness := (true, "7d2adadc6b694e5889f8ffa74b68ac253a149b1df0961128c7b6218fb2e1e1ee"), looks := false }, kinds := [], alts := [], laidByText := true, laidKinds := [.data, .data, .pinned], laidTests := true, laidLooks := .later }
def DeltaSumsCardSaid : Prop := Claim7.holds Tryz.pinned (.plain (OpenSpec.ofChange deltaSumsSpec)) deltaSumsCard

/-- THE TIED CARD OF 'fulcrumlaw05.DeltaSmalls'. -/
def deltaSmallsCard : Claim7 := { stood := { row := deltaSmallsRow, standIns := [], harness := (true, "7d2adadc6b694e5889f8ffa74b68ac253a149b1df0961128c7b6218fb2e1e1ee"), looks := false }, kinds := [], alts := [], laidByText := true, laidKinds := [.data, .data, .pinned], laidTests := true, laidLooks := .later }
def DeltaSmallsCardSaid : Prop := Claim7.holds Tryz.pinned (.plain (OpenSpec.ofChange deltaSmallsSpec)) deltaSmallsCard

/-- THE TIED CARD OF 'fulcrumlaw05.DeltaTexts'. -/
def deltaTextsCard : Claim7 := { stood := { row := deltaTextsRow, standIns := [], harness := (true, "7d2adadc6b694e5889f8ffa74b68ac253a149b1df0961128c7b6218fb2e1e1ee"), looks := false }, kinds := [], alts := [], laidByText := true, laidKinds := [.data, .data, .pinned], laidTests := true, laidLooks := .later }
def DeltaTextsCardSaid : Prop := Claim7.holds Tryz.pinned (.plain (OpenSpec.ofChange deltaTextsSpec)) deltaTextsCard

/-- THE TIED CARD OF 'fulcrumlaw05.DeltaReads'. -/
def deltaReadsCard : Claim7 := { stood := { row := deltaReadsRow, standIns := [], harness := (true, "7d2adadc6b694e5889f8ffa74b68ac253a149b1df0961128c7b6218fb2e1e1ee"), looks := false }, kinds := [], alts := [], laidByText := true, laidKinds := [.data, .data, .pinned], laidTests := true, laidLooks := .later }
def DeltaReadsCardSaid : Prop := Claim7.holds Tryz.pinned (.plain (OpenSpec.ofChange deltaReadsSpec)) deltaReadsCard

/-- THE TIED CARD OF 'fulcrumlaw05.DeltaSpace'. -/
def deltaSpaceCard : Claim7 := { stood := { row := deltaSpaceRow, standIns := [], harness := (true, "7d2adadc6b694e5889f8ffa74b68ac253a149b1df0961128c7b6218fb2e1e1ee"), looks := false }, kinds := [], alts := [], laidByText := true, laidKinds := [.data, .data, .pinned], laidTests := true, laidLooks := .later }
def DeltaSpaceCardSaid : Prop := Claim7.holds Tryz.pinned (.plain (OpenSpec.ofChange deltaSpaceSpec)) deltaSpaceCard

/-- THE SECOND FORM's CARD OF 'fulcrumlaw05.DeltaNorms'. -/
def deltaNormsUptoCard : Claim7 := { stood := { row := deltaNormsUptoRow, standIns := [], harness := (true, "7d2adadc6b694e5889f8ffa74b68ac253a149b1df0961128c7b6218fb2e1e1ee"), looks := false }, kinds := [], alts := [], laidByText := true, laidKinds := [.data, .data, .pinned], laidTests := true, laidLooks := .later }
def DeltaNormsUptoCardSaid : Prop := Claim7.holds Tryz.pinned (.plain (OpenSpec.upto deltaNormsSpec)) deltaNormsUptoCard

/-- THE SECOND FORM's CARD OF 'fulcrumlaw05.DeltaSums'. -/
def deltaSumsUptoCard : Claim7 := { stood := { row := deltaSumsUptoRow, standIns := [], harness := (true, "7d2adadc6b694e5889f8ffa74b68ac253a149b1df0961128c7b6218fb2e1e1ee"), looks := false }, kinds := [], alts := [], laidByText := true, laidKinds := [.data, .data, .pinned], laidTests := true, laidLooks := .later }
def DeltaSumsUptoCardSaid : Prop := Claim7.holds Tryz.pinned (.plain (OpenSpec.upto deltaSumsSpec)) deltaSumsUptoCard

/-- THE SECOND FORM's CARD OF 'fulcrumlaw05.DeltaSmalls'. -/
def deltaSmallsUptoCard : Claim7 := { stood := { row := deltaSmallsUptoRow, standIns := [], harness := (true, "7d2adadc6b694e5889f8ffa74b68ac253a149b1df0961128c7b6218fb2e1e1ee"), looks := false }, kinds := [], alts := [], laidByText := true, laidKinds := [.data, .data, .pinned], laidTests := true, laidLooks := .later }
def DeltaSmallsUptoCardSaid : Prop := Claim7.holds Tryz.pinned (.plain (OpenSpec.upto deltaSmallsSpec)) deltaSmallsUptoCard

/-- THE SECOND FORM's CARD OF 'fulcrumlaw05.DeltaTexts'. -/
def deltaTextsUptoCard : Claim7 := { stood := { row := deltaTextsUptoRow, standIns := [], harness := (true, "7d2adadc6b694e5889f8ffa74b68ac253a149b1df0961128c7b6218fb2e1e1ee"), looks := false }, kinds := [], alts := [], laidByText := true, laidKinds := [.data, .data, .pinned], laidTests := true, laidLooks := .later }
def DeltaTextsUptoCardSaid : Prop := Claim7.holds Tryz.pinned (.plain (OpenSpec.upto deltaTextsSpec)) deltaTextsUptoCard

/-- THE SECOND FORM's CARD OF 'fulcrumlaw05.DeltaReads'. -/
def deltaReadsUptoCard : Claim7 := { stood := { row := deltaReadsUptoRow, standIns := [], harness := (true, "7d2adadc6b694e5889f8ffa74b68ac253a149b1df0961128c7b6218fb2e1e1ee"), looks := false }, kinds := [], alts := [], laidByText := true, laidKinds := [.data, .data, .pinned], laidTests := true, laidLooks := .later }
def DeltaReadsUptoCardSaid : Prop := Claim7.holds Tryz.pinned (.plain (OpenSpec.upto deltaReadsSpec)) deltaReadsUptoCard

/-- THE SECOND FORM's CARD OF 'fulcrumlaw05.DeltaSpace'. -/
def deltaSpaceUptoCard : Claim7 := { stood := { row := deltaSpaceUptoRow, standIns := [], harness := (true, "7d2adadc6b694e5889f8ffa74b68ac253a149b1df0961128c7b6218fb2e1e1ee"), looks := false }, kinds := [], alts := [], laidByText := true, laidKinds := [.data, .data, .pinned], laidTests := true, laidLooks := .later }
def DeltaSpaceUptoCardSaid : Prop := Claim7.holds Tryz.pinned (.plain (OpenSpec.upto deltaSpaceSpec)) deltaSpaceUptoCard
end Rows
end Go.Proofs.YtpjeahmndhfmfaaGreatDoor
