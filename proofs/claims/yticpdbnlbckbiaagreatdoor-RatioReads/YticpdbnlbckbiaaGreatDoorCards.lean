/-
  DERIVED. GIVEN WITH THE SEED: THE CARDS: each row of YticpdbnlbckbiaaGreatDoorRows.lean that lists a variable, with what it lists TIED to the program's text (the seventh form; the later family's looks); each row that meets fmt, with fmt's text TOLD by the authors' own Lean function (tested against real Go, not proved from fmt's source: count such statements apart). THE CARD IS WHAT COUNTS. Prove the row's statement (the work); the ties are given (YticpdbnlbckbiaaGreatDoorTie.lean); close each card by the builder's one call (the guide's Derived/Test/ToyasCard.lean, 'card_holds'). Laid BY PROGRAM, IN A SANDBOX (cutbox-door.mjs). By AI agents, Wed Nov 11 2026. No macro, syntax, notation, axiom, sorry.
-/
import Derived.Test.YticpdbnlbckbiaaGreatDoorRows
import GoSem.ClaimSeven
namespace Go.Proofs.YticpdbnlbckbiaaGreatDoor
namespace Rows

/-- THE TIED CARD OF 'fulcrumlaw03.RatioReads'. -/
def ratioReadsCard : Claim7 := { stood := { row := ratioReadsRow, standIns := [], harness := (true, "2c4ab5e9bfa8bf14e75244474e2e1e3bd8229c1ac352940a665cef04ecd8b61d"), looks := false }, kinds := [], alts := [], laidByText := true, laidKinds := [.data], laidTests := true, laidLooks := .later }
def RatioReadsCardSaid : Prop := Claim7.holds Tryz.pinned (.plain (OpenSpec.ofChange ratioReadsSpec)) ratioReadsCard

/-- THE SECOND FORM's CARD OF 'fulcrumlaw03.RatioReads'. -/
def ratioReadsUptoCard : Claim7 := { stood := { row := ratioReadsUptoRow, standIns := [], harness := (true, "2c4ab5e9bfa8bf14e75244474e2e1e3bd8229c1ac352940a665cef04ecd8b61d"), looks := false }, kinds := [], alts := [], laidByText := true, laidKinds := [.data], laidTests := true, laidLooks := .later }
def RatioReadsUptoCardSaid : Prop := Claim7.holds Tryz.pinned (.plain (OpenSpec.upto ratioReadsSpec)) ratioReadsUptoCard
end Rows
end Go.Proofs.YticpdbnlbckbiaaGreatDoor
