/-
  DERIVED. GIVEN WITH THE SEED: THE CARDS: each row of YtmadeobmlmopaaaDoorRows.lean that lists a variable, with what it lists TIED to the program's text (the seventh form; the later family's looks); each row that meets fmt, with fmt's text TOLD by the authors' own Lean function (tested against real Go, not proved from fmt's source: count such statements apart). THE CARD IS WHAT COUNTS. Prove the row's statement (the work); the ties are given (YtmadeobmlmopaaaDoorTie.lean); close each card by the builder's one call (the guide's Derived/Test/ToyasCard.lean, 'card_holds'). Laid BY PROGRAM, IN A SANDBOX (cutbox-door.mjs). By AI agents, Wed Nov 11 2026. No macro, syntax, notation, axiom, sorry.
-/
import Derived.Test.YtmadeobmlmopaaaDoorRows
import GoSem.ClaimSeven
namespace Go.Proofs.YtmadeobmlmopaaaDoor
namespace Rows

/-- THE TIED CARD OF 'fulcrumlaw12.TokensCover'. -/
def tokensCoverCard : Claim7 := { stood := { row := tokensCoverRow, standIns := [], harness := (true, "8f6538cde5e58c2a5cab7f11c7cf9cf9933c4c2fc0f87642054d6337b0eea42c"), looks := false }, kinds := [], alts := [], laidByText := true, laidKinds := [.data, .pinned], laidTests := true, laidLooks := .later }
def TokensCoverCardSaid : Prop := Claim7.holds Tryd.pinned (.plain (OpenSpec.ofChange tokensCoverSpec)) tokensCoverCard

/-- THE SECOND FORM's CARD OF 'fulcrumlaw12.TokensCover'. -/
def tokensCoverUptoCard : Claim7 := { stood := { row := tokensCoverUptoRow, standIns := [], harness := (true, "8f6538cde5e58c2a5cab7f11c7cf9cf9933c4c2fc0f87642054d6337b0eea42c"), looks := false }, kinds := [], alts := [], laidByText := true, laidKinds := [.data, .pinned], laidTests := true, laidLooks := .later }
def TokensCoverUptoCardSaid : Prop := Claim7.holds Tryd.pinned (.plain (OpenSpec.upto tokensCoverSpec)) tokensCoverUptoCard
end Rows
end Go.Proofs.YtmadeobmlmopaaaDoor
