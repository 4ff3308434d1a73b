/-
  The scanner's states, by numbers: what has come when one more character comes.
-/
import Derived.Test.YtibeiggedmabkaaDoorTK0
namespace Go.Proofs.YtibeiggedmabkaaDoor
set_option linter.unusedVariables false

def hxN (c : Nat) : Bool := dgN c || decide (97 ≤ c) && decide (c ≤ 102) || decide (65 ≤ c) && decide (c ≤ 70)
def biN (c : Nat) : Bool := decide (c = 48) || decide (c = 49)
/-- the kind of token that has come -/
def kindN : Nat → Nat
  | 5 => 1 | 6 => 2 | 7 => 3 | 9 => 3 | 11 => 4 | 12 => 5 | 13 => 5 | 15 => 6 | 18 => 7 | 20 => 8 | 22 => 9 | _ => 0
def startN (c : Nat) : Nat :=
  if c = 59 then 4 else if c = 40 then 5 else if c = 41 then 6 else if c = 124 then 8 else if c = 34 then 21 else if c = 58 then 10 else if c = 35 then 16 else if c = 48 then 12
  else if blN c = true then 3 else if dgN c = true then 13 else if syN c = true then 7 else 25
def quotN (st c : Nat) : Nat :=
  if st = 22 then (if c = 34 then 21 else 23) else if st = 8 then (if c = 124 then 9 else if nbN c = true then 25 else 8) else (if c = 34 then 22 else if nqN c = true then 25 else 21)
def numN (st c : Nat) : Nat :=
  if (st = 12 ∨ st = 13) ∧ c = 46 then 14 else if st = 13 ∧ dgN c = true then 13 else if (st = 14 ∨ st = 15) ∧ dgN c = true then 15
  else if st = 16 ∧ c = 120 then 17 else if st = 16 ∧ c = 98 then 19 else if (st = 17 ∨ st = 18) ∧ hxN c = true then 18 else if (st = 19 ∨ st = 20) ∧ biN c = true then 20
  else if kindN st = 0 ∨ syN c = true then 24 else 23
def folN (st c : Nat) : Nat :=
  if st = 3 then startN c else if st = 4 then (if c = 10 ∨ c = 13 then 3 else 4) else if st = 7 ∨ st = 11 then (if syN c = true then st else 23)
  else if st = 10 then (if syN c = true ∧ dgN c = false then 11 else 24) else if st = 8 ∨ st = 21 ∨ st = 22 then quotN st c else numN st c
/-- the states in which a scanner waits for more -/
def waits : List Nat := [3, 4, 7, 8, 10, 11, 12, 13, 14, 15, 16, 17, 18, 19, 20, 21, 22]
end Go.Proofs.YtibeiggedmabkaaDoor
