/-
  DERIVED. GIVEN WITH THE SEED: THE CARDS: each row of YtjlooglohlncfacGreatDoorRows.lean that lists a variable, with what it lists TIED to the program's text (the seventh form; the later family's looks); each row that meets fmt, with fmt's text TOLD by the authors' own Lean function (tested against real Go, not proved from fmt's source: count such statements apart). THE CARD IS WHAT COUNTS. Prove the row's statement (the work); the ties are given (YtjlooglohlncfacGreatDoorTie.lean); close each card by the builder's one call (the guide's Derived/Test/ToyasCard.lean, 'card_holds'). Laid BY PROGRAM, IN A SANDBOX (cutbox-door.mjs). By AI agents, Wed Nov 11 2026. No macro, syntax, notation, axiom, sorry.
-/
import Derived.Test.YtjlooglohlncfacGreatDoorRows
import GoSem.ClaimSeven
namespace Go.Proofs.YtjlooglohlncfacGreatDoor
namespace Rows

/-- THE TIED CARD OF 'fulcrumlaw03.RatioBack'. -/
def ratioBackCard : Claim7 := { stood := { row := ratioBackRow, standIns := [], harness := (true, "3af9f0c61308989a49a69c32dc8f407bb9fdf803df92357a1867211b1c82157f"), looks := false }, kinds := [], alts := [], laidByText := true, laidKinds := [.data], laidTests := true, laidLooks := .later }
def RatioBackCardSaid : Prop := Claim7.holds Tryz.pinned (.plain (OpenSpec.ofChange ratioBackSpec)) ratioBackCard

/-- THE TIED CARD OF 'fulcrumlaw03.RatioLeast'. -/
def ratioLeastCard : Claim7 := { stood := { row := ratioLeastRow, standIns := [], harness := (true, "3af9f0c61308989a49a69c32dc8f407bb9fdf803df92357a1867211b1c82157f"), looks := false }, kinds := [], alts := [], laidByText := true, laidKinds := [.data], laidTests := true, laidLooks := .later }
def RatioLeastCardSaid : Prop := Claim7.holds Tryz.pinned (.plain (OpenSpec.ofChange ratioLeastSpec)) ratioLeastCard

/-- THE TIED CARD OF 'fulcrumlaw03.RatioCloser'. -/
def ratioCloserCard : Claim7 := { stood := { row := ratioCloserRow, standIns := [], harness := (true, "3af9f0c61308989a49a69c32dc8f407bb9fdf803df92357a1867211b1c82157f"), looks := false }, kinds := [], alts := [], laidByText := true, laidKinds := [.data], laidTests := true, laidLooks := .later }
def RatioCloserCardSaid : Prop := Claim7.holds Tryz.pinned (.plain (OpenSpec.ofChange ratioCloserSpec)) ratioCloserCard

/-- THE TIED CARD OF 'fulcrumlaw03.RatioRounds'. -/
def ratioRoundsCard : Claim7 := { stood := { row := ratioRoundsRow, standIns := [], harness := (true, "3af9f0c61308989a49a69c32dc8f407bb9fdf803df92357a1867211b1c82157f"), looks := false }, kinds := [], alts := [], laidByText := true, laidKinds := [.data], laidTests := true, laidLooks := .later }
def RatioRoundsCardSaid : Prop := Claim7.holds Tryz.pinned (.plain (OpenSpec.ofChange ratioRoundsSpec)) ratioRoundsCard

/-- THE TIED CARD OF 'fulcrumlaw03.RatioFloorLeast'. -/
def ratioFloorLeastCard : Claim7 := { stood := { row := ratioFloorLeastRow, standIns := [], harness := (true, "3af9f0c61308989a49a69c32dc8f407bb9fdf803df92357a1867211b1c82157f"), looks := false }, kinds := [], alts := [], laidByText := true, laidKinds := [.data], laidTests := true, laidLooks := .later }
def RatioFloorLeastCardSaid : Prop := Claim7.holds Tryz.pinned (.plain (OpenSpec.ofChange ratioFloorLeastSpec)) ratioFloorLeastCard

/-- THE TIED CARD OF 'fulcrumlaw03.RatioOwn'. -/
def ratioOwnCard : Claim7 := { stood := { row := ratioOwnRow, standIns := [], harness := (true, "3af9f0c61308989a49a69c32dc8f407bb9fdf803df92357a1867211b1c82157f"), looks := false }, kinds := [], alts := [], laidByText := true, laidKinds := [.data], laidTests := true, laidLooks := .later }
def RatioOwnCardSaid : Prop := Claim7.holds Tryz.pinned (.plain (OpenSpec.ofChange ratioOwnSpec)) ratioOwnCard

/-- THE SECOND FORM's CARD OF 'fulcrumlaw03.RatioBack'. -/
def ratioBackUptoCard : Claim7 := { stood := { row := ratioBackUptoRow, standIns := [], harness := (true, "3af9f0c61308989a49a69c32dc8f407bb9fdf803df92357a1867211b1c82157f"), looks := false }, kinds := [], alts := [], laidByText := true, laidKinds := [.data], laidTests := true, laidLooks := .later }
def RatioBackUptoCardSaid : Prop := Claim7.holds Tryz.pinned (.plain (OpenSpec.upto ratioBackSpec)) ratioBackUptoCard

/-- THE SECOND FORM's CARD OF 'fulcrumlaw03.RatioLeast'. -/
def ratioLeastUptoCard : Claim7 := { stood := { row := ratioLeastUptoRow, standIns := [], harness := (true, "3af9f0c61308989a49a69c32dc8f407bb9fdf803df92357a1867211b1c82157f"), looks := false }, kinds := [], alts := [], laidByText := true, laidKinds := [.data], laidTests := true, laidLooks := .later }
def RatioLeastUptoCardSaid : Prop := Claim7.holds Tryz.pinned (.plain (OpenSpec.upto ratioLeastSpec)) ratioLeastUptoCard

/-- THE SECOND FORM's CARD OF 'fulcrumlaw03.RatioCloser'. -/
def ratioCloserUptoCard : Claim7 := { stood := { row := ratioCloserUptoRow, standIns := [], harness := (true, "3af9f0c61308989a49a69c32dc8f407bb9fdf803df92357a1867211b1c82157f"), looks := false }, kinds := [], alts := [], laidByText := true, laidKinds := [.data], laidTests := true, laidLooks := .later }
def RatioCloserUptoCardSaid : Prop := Claim7.holds Tryz.pinned (.plain (OpenSpec.upto ratioCloserSpec)) ratioCloserUptoCard

/-- THE SECOND FORM's CARD OF 'fulcrumlaw03.RatioRounds'. -/
def ratioRoundsUptoCard : Claim7 := { stood := { row := ratioRoundsUptoRow, standIns := [], harness := (true, "3af9f0c61308989a49a69c32dc8f407bb9fdf803df92357a1867211b1c82157f"), looks := false }, kinds := [], alts := [], laidByText := true, laidKinds := [.data], laidTests := true, laidLooks := .later }
def RatioRoundsUptoCardSaid : Prop := Claim7.holds Tryz.pinned (.plain (OpenSpec.upto ratioRoundsSpec)) ratioRoundsUptoCard

/-- THE SECOND FORM's CARD OF 'fulcrumlaw03.RatioFloorLeast'. -/
def ratioFloorLeastUptoCard : Claim7 := { stood := { row := ratioFloorLeastUptoRow, standIns := [], harness := (true, "3af9f0c61308989a49a69c32dc8f407bb9fdf803df92357a1867211b1c82157f"), looks := false }, kinds := [], alts := [], laidByText := true, laidKinds := [.data], laidTests := true, laidLooks := .later }
def RatioFloorLeastUptoCardSaid : Prop := Claim7.holds Tryz.pinned (.plain (OpenSpec.upto ratioFloorLeastSpec)) ratioFloorLeastUptoCard

/-- THE SECOND FORM's CARD OF 'fulcrumlaw03.RatioOwn'. -/
def ratioOwnUptoCard : Claim7 := { stood := { row := ratioOwnUptoRow, standIns := [], harness := (true, "3af9f0c61308989a49a69c32dc8f407bb9fdf803df92357a1867211b1c82157f"), looks := false }, kinds := [], alts := [], laidByText := true, laidKinds := [.data], laidTests := true, laidLooks := .later }
def RatioOwnUptoCardSaid : Prop := Claim7.holds Tryz.pinned (.plain (OpenSpec.upto ratioOwnSpec)) ratioOwnUptoCard
end Rows
end Go.Proofs.YtjlooglohlncfacGreatDoor
