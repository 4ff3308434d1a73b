/-
  units: a store as numbers (pure).
-/
import Derived.Test.YtfodejhipnmgnaaUB3
namespace Go.Proofs.Ytfodejhipnmgnaa
open Go.RowKit
set_option linter.unusedVariables false
set_option linter.unusedSimpArgs false
/-- when a literal falls that does not -/
def nev : Int := 9223372036854775807
/-- is it one of so many atoms, or one times -1, or 0? -/
def InR (u : US) (x : Int) : Prop := -(u.tr.length : Int) < x ∧ x < u.tr.length
def IsL (u : US) (x : Int) : Prop := x ≠ 0 ∧ InR u x
/-- what truth tells -/
def trv (u : US) (x : Int) : Int := if x < 0 then -(u.tr.getD x.natAbs 0) else u.tr.getD x.natAbs 0
/-- what falls tells -/
def fallsV (u : US) (x : Int) : Int := if x = 0 then 0 else if trv u x < 0 then -(trv u x) else nev
/-- what since tells -/
def sinceV (u : US) (x : Int) : Int := if x = 0 then 0 else if trv u x = 0 then nev else (u.mks.getD ((trv u x).natAbs - 1) default).v
/-- a literal's list -/
def lstV (x : Int) : Nat := if x < 0 then 2 * x.natAbs + 1 else 2 * x.natAbs
/-- a clause is safe -/
def safeV (u : US) (x y : Int) : Bool := (decide (trv u x > 0) && decide (sinceV u x ≤ sinceV u y)) || (decide (trv u y > 0) && decide (sinceV u y ≤ sinceV u x))
/-- the level -/
def lvlV (u : US) : Int := match u.mks.getLast? with | none => 0 | some m => m.v
/-- what must be known of the numbers for the program to reckon with them -/
structure Rd (u : US) : Prop where
  n0 : 0 < u.tr.length
  nT : u.tr.length ≤ 262145
  nM : u.mks.length ≤ 262144
  tb : ∀ i, (u.tr.getD i 0).natAbs ≤ u.mks.length
  t0 : u.tr.getD 0 0 = 0
theorem trv_abs (u : US) (x : Int) : (trv u x).natAbs = (u.tr.getD x.natAbs 0).natAbs := by unfold trv; split <;> omega
theorem Rd.tv {u : US} (h : Rd u) (x : Int) : (trv u x).natAbs ≤ u.mks.length := by rw [trv_abs]; exact h.tb _
theorem Rd.z {u : US} (h : Rd u) : trv u 0 = 0 := by unfold trv; rw [if_neg (by omega)]; exact h.t0
end Go.Proofs.Ytfodejhipnmgnaa
