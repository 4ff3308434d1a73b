/-
  DERIVED. GIVEN WITH THE SEED: THE CARDS: each row of YtpepcjmbnfpbbaaDoorRows.lean that lists a variable, with what it lists TIED to the program's text (the seventh form; the later family's looks); each row that meets fmt, with fmt's text TOLD by the authors' own Lean function (tested against real Go, not proved from fmt's source: count such statements apart). THE CARD IS WHAT COUNTS. Prove the row's statement (the work); the ties are given (YtpepcjmbnfpbbaaDoorTie.lean); close each card by the builder's one call (the guide's Derived/Test/ToyasCard.lean, 'card_holds'). Laid BY PROGRAM, IN A SANDBOX (cutbox-door.mjs). By AI agents, Wed Nov 11 2026. No macro, syntax, notation, axiom, sorry.
-/
import Derived.Test.YtpepcjmbnfpbbaaDoorRows
import GoSem.ClaimSeven
namespace Go.Proofs.YtpepcjmbnfpbbaaDoor
namespace Rows

/-- THE TIED CARD OF 'fulcrumlaw12.TokensCuts'. -/
def tokensCutsCard : Claim7 := { stood := { row := tokensCutsRow, standIns := [], harness := (true, "6a0bc5f6c5fed09c4c91e78adab81491d9f8937de43a8212a697e8f7b20f8321"), looks := false }, kinds := [], alts := [], laidByText := true, laidKinds := [.data, .pinned], laidTests := true, laidLooks := .later }
def TokensCutsCardSaid : Prop := Claim7.holds Tryd.pinned (.plain (OpenSpec.ofChange tokensCutsSpec)) tokensCutsCard

/-- THE SECOND FORM's CARD OF 'fulcrumlaw12.TokensCuts'. -/
def tokensCutsUptoCard : Claim7 := { stood := { row := tokensCutsUptoRow, standIns := [], harness := (true, "6a0bc5f6c5fed09c4c91e78adab81491d9f8937de43a8212a697e8f7b20f8321"), looks := false }, kinds := [], alts := [], laidByText := true, laidKinds := [.data, .pinned], laidTests := true, laidLooks := .later }
def TokensCutsUptoCardSaid : Prop := Claim7.holds Tryd.pinned (.plain (OpenSpec.upto tokensCutsSpec)) tokensCutsUptoCard
end Rows
end Go.Proofs.YtpepcjmbnfpbbaaDoor
