/-
  From what a law's row hands over (a list of api.Rat, an api.Form that came in) to the walks' words.
-/
import Derived.Test.YtppjfghaboeceaaGreatDoorOpenQ
import Derived.Deep.Slices
namespace Go.Proofs.YtppjfghaboeceaaGreatDoor
open Go.ChangeShapes Go.WideShapes Go.ChangeAt Go.RowKit Go.Deep
set_option linter.unusedVariables false

/-- a fraction, as its three cells and the two numbers that they point to -/
structure RatV where
  s : Bool
  a : Option Addr
  n : Nat
  c : Nat
  X : Nat
  b : Option Addr
  m : Nat
  e : Nat
  Y : Nat
instance : Inhabited RatV := ⟨⟨false, none, 0, 0, 0, none, 0, 0, 0⟩⟩

/-- its two numbers lie in W -/
def RatV.ok (W : World) (q : RatV) : Prop := Seg W q.a q.X q.n ∧ q.n ≤ q.c ∧ q.n ≤ 35184372087808 ∧ Seg W q.b q.Y q.m ∧ q.m ≤ q.e ∧ q.m ≤ 35184372087808

/-- its three cells lie in W at one place -/
def RatV.lies (W : World) (b off : Nat) (q : RatV) : Prop :=
  W.cell? ⟨b, off, none⟩ = some (.bool q.s) ∧ W.cell? ⟨b, off + 1, none⟩ = some (.slice q.a q.n q.c) ∧ W.cell? ⟨b, off + 2, none⟩ = some (.slice q.b q.m q.e)

/-! ### A form: a list of a number of a variable and a fraction -/

end Go.Proofs.YtppjfghaboeceaaGreatDoor
