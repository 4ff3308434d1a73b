/-
  DERIVED. GIVEN WITH THE SEED: THE CARDS: each row of YtioolpjlffblkaaDoorRows.lean that lists a variable, with what it lists TIED to the program's text (the seventh form; the later family's looks); each row that meets fmt, with fmt's text TOLD by the authors' own Lean function (tested against real Go, not proved from fmt's source: count such statements apart). THE CARD IS WHAT COUNTS. Prove the row's statement (the work); the ties are given (YtioolpjlffblkaaDoorTie.lean); close each card by the builder's one call (the guide's Derived/Test/ToyasCard.lean, 'card_holds'). Laid BY PROGRAM, IN A SANDBOX (cutbox-door.mjs). By AI agents, Wed Nov 11 2026. No macro, syntax, notation, axiom, sorry.
-/
import Derived.Test.YtioolpjlffblkaaDoorRows
import GoSem.ClaimSeven
namespace Go.Proofs.YtioolpjlffblkaaDoor
namespace Rows

/-- THE TIED CARD OF 'fulcrumlaw12.TokensReads'. -/
def tokensReadsCard : Claim7 := { stood := { row := tokensReadsRow, standIns := [], harness := (true, "9e6ecd61f59d40445725702c9f4c09f64609c1299e11a8157b895521a6d68275"), looks := false }, kinds := [], alts := [], laidByText := true, laidKinds := [.data, .pinned], laidTests := true, laidLooks := .later }
def TokensReadsCardSaid : Prop := Claim7.holds Tryd.pinned (.plain (OpenSpec.ofChange tokensReadsSpec)) tokensReadsCard

/-- THE SECOND FORM's CARD OF 'fulcrumlaw12.TokensReads'. -/
def tokensReadsUptoCard : Claim7 := { stood := { row := tokensReadsUptoRow, standIns := [], harness := (true, "9e6ecd61f59d40445725702c9f4c09f64609c1299e11a8157b895521a6d68275"), looks := false }, kinds := [], alts := [], laidByText := true, laidKinds := [.data, .pinned], laidTests := true, laidLooks := .later }
def TokensReadsUptoCardSaid : Prop := Claim7.holds Tryd.pinned (.plain (OpenSpec.upto tokensReadsSpec)) tokensReadsUptoCard
end Rows
end Go.Proofs.YtioolpjlffblkaaDoor
