/-
  DERIVED. GIVEN WITH THE SEED: THE CARDS: each row of YtdbhhlecdgbpkaaDoorRows.lean that lists a variable, with what it lists TIED to the program's text (the seventh form; the later family's looks); each row that meets fmt, with fmt's text TOLD by the authors' own Lean function (tested against real Go, not proved from fmt's source: count such statements apart). THE CARD IS WHAT COUNTS. Prove the row's statement (the work); the ties are given (YtdbhhlecdgbpkaaDoorTie.lean); close each card by the builder's one call (the guide's Derived/Test/ToyasCard.lean, 'card_holds'). Laid BY PROGRAM, IN A SANDBOX (cutbox-door.mjs). By AI agents, Wed Nov 11 2026. No macro, syntax, notation, axiom, sorry.
-/
import Derived.Test.YtdbhhlecdgbpkaaDoorRows
import GoSem.ClaimSeven
namespace Go.Proofs.YtdbhhlecdgbpkaaDoor
namespace Rows

/-- THE TIED CARD OF 'fulcrumlaw12.TokensSpread'. -/
def tokensSpreadCard : Claim7 := { stood := { row := tokensSpreadRow, standIns := [], harness := (true, "b4d187d8f7d499a88e096ee99a21e88e1345d4f8ad8d717c3a2d6a19d2c7df96"), looks := false }, kinds := [], alts := [], laidByText := true, laidKinds := [.data, .pinned], laidTests := true, laidLooks := .later }
def TokensSpreadCardSaid : Prop := Claim7.holds Tryd.pinned (.plain (OpenSpec.ofChange tokensSpreadSpec)) tokensSpreadCard

/-- THE SECOND FORM's CARD OF 'fulcrumlaw12.TokensSpread'. -/
def tokensSpreadUptoCard : Claim7 := { stood := { row := tokensSpreadUptoRow, standIns := [], harness := (true, "b4d187d8f7d499a88e096ee99a21e88e1345d4f8ad8d717c3a2d6a19d2c7df96"), looks := false }, kinds := [], alts := [], laidByText := true, laidKinds := [.data, .pinned], laidTests := true, laidLooks := .later }
def TokensSpreadUptoCardSaid : Prop := Claim7.holds Tryd.pinned (.plain (OpenSpec.upto tokensSpreadSpec)) tokensSpreadUptoCard
end Rows
end Go.Proofs.YtdbhhlecdgbpkaaDoor
