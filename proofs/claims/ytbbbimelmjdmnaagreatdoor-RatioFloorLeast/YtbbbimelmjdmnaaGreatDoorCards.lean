/-
  DERIVED. GIVEN WITH THE SEED: THE CARDS: each row of YtbbbimelmjdmnaaGreatDoorRows.lean that lists a variable, with what it lists TIED to the program's text (the seventh form; the later family's looks); each row that meets fmt, with fmt's text TOLD by the authors' own Lean function (tested against real Go, not proved from fmt's source: count such statements apart). THE CARD IS WHAT COUNTS. Prove the row's statement (the work); the ties are given (YtbbbimelmjdmnaaGreatDoorTie.lean); close each card by the builder's one call (the guide's Derived/Test/ToyasCard.lean, 'card_holds'). Laid BY PROGRAM, IN A SANDBOX (cutbox-door.mjs). By AI agents, Wed Nov 11 2026. No macro, syntax, notation, axiom, sorry.
-/
import Derived.Test.YtbbbimelmjdmnaaGreatDoorRows
import GoSem.ClaimSeven
namespace Go.Proofs.YtbbbimelmjdmnaaGreatDoor
namespace Rows

/-- THE TIED CARD OF 'fulcrumlaw03.RatioFloorLeast'. -/
def ratioFloorLeastCard : Claim7 := { stood := { row := ratioFloorLeastRow, standIns := [], harness := (true, "f510139501b031dcfe2d39c56bbd7112c19dff63f3057f460512532f87b4bd54"), looks := false }, kinds := [], alts := [], laidByText := true, laidKinds := [.data], laidTests := true, laidLooks := .later }
def RatioFloorLeastCardSaid : Prop := Claim7.holds Tryz.pinned (.plain (OpenSpec.ofChange ratioFloorLeastSpec)) ratioFloorLeastCard

/-- THE SECOND FORM's CARD OF 'fulcrumlaw03.RatioFloorLeast'. -/
def ratioFloorLeastUptoCard : Claim7 := { stood := { row := ratioFloorLeastUptoRow, standIns := [], harness := (true, "f510139501b031dcfe2d39c56bbd7112c19dff63f3057f460512532f87b4bd54"), looks := false }, kinds := [], alts := [], laidByText := true, laidKinds := [.data], laidTests := true, laidLooks := .later }
def RatioFloorLeastUptoCardSaid : Prop := Claim7.holds Tryz.pinned (.plain (OpenSpec.upto ratioFloorLeastSpec)) ratioFloorLeastUptoCard
end Rows
end Go.Proofs.YtbbbimelmjdmnaaGreatDoor
