/-
  DERIVED. GIVEN WITH THE SEED: THE CARDS: each row of YtpfmamimhhnbiaaDoorRows.lean that lists a variable, with what it lists TIED to the program's text (the seventh form; the later family's looks); each row that meets fmt, with fmt's text TOLD by the authors' own Lean function (tested against real Go, not proved from fmt's source: count such statements apart). THE CARD IS WHAT COUNTS. Prove the row's statement (the work); the ties are given (YtpfmamimhhnbiaaDoorTie.lean); close each card by the builder's one call (the guide's Derived/Test/ToyasCard.lean, 'card_holds'). Laid BY PROGRAM, IN A SANDBOX (cutbox-door.mjs). By AI agents, Wed Nov 11 2026. No macro, syntax, notation, axiom, sorry.
-/
import Derived.Test.YtpfmamimhhnbiaaDoorRows
import GoSem.ClaimSeven
namespace Go.Proofs.YtpfmamimhhnbiaaDoor
namespace Rows

/-- THE TIED CARD OF 'fulcrumlaw13.SexprBack'. -/
def sexprBackCard : Claim7 := { stood := { row := sexprBackRow, standIns := [], harness := (true, "c3182d04ab3b784fcdc063bbd8936a050f891be87e66b87c8bc6a9ece34e1977"), looks := true }, kinds := [], alts := [], laidByText := true, laidKinds := [.data, .pinned], laidTests := true, laidLooks := .later }
def SexprBackCardSaid : Prop := Claim7.holds Tryd.pinned (.plain (OpenSpec.ofChange sexprBackSpec)) sexprBackCard

/-- THE TIED CARD OF 'fulcrumlaw13.SexprAgain'. -/
def sexprAgainCard : Claim7 := { stood := { row := sexprAgainRow, standIns := [], harness := (true, "c3182d04ab3b784fcdc063bbd8936a050f891be87e66b87c8bc6a9ece34e1977"), looks := true }, kinds := [], alts := [], laidByText := true, laidKinds := [.data, .pinned], laidTests := true, laidLooks := .later }
def SexprAgainCardSaid : Prop := Claim7.holds Tryd.pinned (.plain (OpenSpec.ofChange sexprAgainSpec)) sexprAgainCard

/-- THE TIED CARD OF 'fulcrumlaw13.SexprOwn'. -/
def sexprOwnCard : Claim7 := { stood := { row := sexprOwnRow, standIns := [], harness := (true, "c3182d04ab3b784fcdc063bbd8936a050f891be87e66b87c8bc6a9ece34e1977"), looks := true }, kinds := [], alts := [], laidByText := true, laidKinds := [.data, .pinned], laidTests := true, laidLooks := .later }
def SexprOwnCardSaid : Prop := Claim7.holds Tryd.pinned (.plain (OpenSpec.ofChange sexprOwnSpec)) sexprOwnCard

/-- THE SECOND FORM's CARD OF 'fulcrumlaw13.SexprBack'. -/
def sexprBackUptoCard : Claim7 := { stood := { row := sexprBackUptoRow, standIns := [], harness := (true, "c3182d04ab3b784fcdc063bbd8936a050f891be87e66b87c8bc6a9ece34e1977"), looks := true }, kinds := [], alts := [], laidByText := true, laidKinds := [.data, .pinned], laidTests := true, laidLooks := .later }
def SexprBackUptoCardSaid : Prop := Claim7.holds Tryd.pinned (.plain (OpenSpec.upto sexprBackSpec)) sexprBackUptoCard

/-- THE SECOND FORM's CARD OF 'fulcrumlaw13.SexprAgain'. -/
def sexprAgainUptoCard : Claim7 := { stood := { row := sexprAgainUptoRow, standIns := [], harness := (true, "c3182d04ab3b784fcdc063bbd8936a050f891be87e66b87c8bc6a9ece34e1977"), looks := true }, kinds := [], alts := [], laidByText := true, laidKinds := [.data, .pinned], laidTests := true, laidLooks := .later }
def SexprAgainUptoCardSaid : Prop := Claim7.holds Tryd.pinned (.plain (OpenSpec.upto sexprAgainSpec)) sexprAgainUptoCard

/-- THE SECOND FORM's CARD OF 'fulcrumlaw13.SexprOwn'. -/
def sexprOwnUptoCard : Claim7 := { stood := { row := sexprOwnUptoRow, standIns := [], harness := (true, "c3182d04ab3b784fcdc063bbd8936a050f891be87e66b87c8bc6a9ece34e1977"), looks := true }, kinds := [], alts := [], laidByText := true, laidKinds := [.data, .pinned], laidTests := true, laidLooks := .later }
def SexprOwnUptoCardSaid : Prop := Claim7.holds Tryd.pinned (.plain (OpenSpec.upto sexprOwnSpec)) sexprOwnUptoCard
end Rows
end Go.Proofs.YtpfmamimhhnbiaaDoor
