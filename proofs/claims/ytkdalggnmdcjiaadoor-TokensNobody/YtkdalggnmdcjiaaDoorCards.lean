/-
  DERIVED. GIVEN WITH THE SEED: THE CARDS: each row of YtkdalggnmdcjiaaDoorRows.lean that lists a variable, with what it lists TIED to the program's text (the seventh form; the later family's looks); each row that meets fmt, with fmt's text TOLD by the authors' own Lean function (tested against real Go, not proved from fmt's source: count such statements apart). THE CARD IS WHAT COUNTS. Prove the row's statement (the work); the ties are given (YtkdalggnmdcjiaaDoorTie.lean); close each card by the builder's one call (the guide's Derived/Test/ToyasCard.lean, 'card_holds'). Laid BY PROGRAM, IN A SANDBOX (cutbox-door.mjs). By AI agents, Wed Nov 11 2026. No macro, syntax, notation, axiom, sorry.
-/
import Derived.Test.YtkdalggnmdcjiaaDoorRows
import GoSem.ClaimSeven
namespace Go.Proofs.YtkdalggnmdcjiaaDoor
namespace Rows

/-- THE TIED CARD OF 'fulcrumlaw12.TokensNobody'. -/
def tokensNobodyCard : Claim7 := { stood := { row := tokensNobodyRow, standIns := [], harness := (true, "d79dadc3f01872af2f5e91b9f7673f2b286d0dfd4a936c5501714e73a7eac193"), looks := false }, kinds := [], alts := [], laidByText := true, laidKinds := [.data, .pinned], laidTests := true, laidLooks := .later }
def TokensNobodyCardSaid : Prop := Claim7.holds Tryd.pinned (.plain (OpenSpec.ofChange tokensNobodySpec)) tokensNobodyCard

/-- THE SECOND FORM's CARD OF 'fulcrumlaw12.TokensNobody'. -/
def tokensNobodyUptoCard : Claim7 := { stood := { row := tokensNobodyUptoRow, standIns := [], harness := (true, "d79dadc3f01872af2f5e91b9f7673f2b286d0dfd4a936c5501714e73a7eac193"), looks := false }, kinds := [], alts := [], laidByText := true, laidKinds := [.data, .pinned], laidTests := true, laidLooks := .later }
def TokensNobodyUptoCardSaid : Prop := Claim7.holds Tryd.pinned (.plain (OpenSpec.upto tokensNobodySpec)) tokensNobodyUptoCard
end Rows
end Go.Proofs.YtkdalggnmdcjiaaDoor
