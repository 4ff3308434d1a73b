/-
  S-expressions out of tokens, without memory: what is whole, what is open, what is wrong and where; the program's way (Feed, then End) and the reference's (all tokens at once) are one.
-/
import Derived.Test.YtibeiggedmabkaaDoorTR9
import Derived.Test.YtibeiggedmabkaaDoorSXN
namespace Go.Proofs.YtibeiggedmabkaaDoor
set_option linter.unusedVariables false
set_option linter.unusedSimpArgs false

/-- a list that is open: where it begins, what stands in it so far -/
structure Opn where
  b : Int
  l : Int
  c : Int
  kids : List Nd
/-- what tokens have made: what is whole, and the lists that are open, the innermost one first -/
structure BS where
  nodes : List Nd
  opn : List Opn
def BS.push (s : BS) (n : Nd) : BS :=
  match s.opn with
  | [] => { s with nodes := s.nodes ++ [n] }
  | o :: r => { s with opn := { o with kids := o.kids ++ [n] } :: r }
/-- a list's node, at its closing bracket -/
def Opn.node (o : Opn) (e : Int) : Nd := .mk ⟨0, ⟨#[]⟩, o.b, e, o.l, o.c⟩ o.kids
inductive BR where
  | ok (s : BS)
  | bad (s : BS) (code place : Int)
def stepB (s : BS) (T : Tok) : BR :=
  if T.k = 1 then (if s.opn.length = 1000 then .bad s 132 T.b else .ok { s with opn := ⟨T.b, T.l, T.c, []⟩ :: s.opn })
  else if T.k = 2 then (match s.opn with
    | [] => .bad s 130 T.b
    | o :: r => .ok (({ s with opn := r } : BS).push (o.node T.e)))
  else .ok (s.push (.mk T []))
def buildB (s : BS) : List Tok → BR
  | [] => .ok s
  | T :: l => match stepB s T with
    | .ok s2 => buildB s2 l
    | .bad s2 c p => .bad s2 c p
theorem buildB_app (s : BS) (a b : List Tok) : buildB s (a ++ b) = match buildB s a with
    | .ok s2 => buildB s2 b
    | .bad s2 c p => .bad s2 c p := by
  induction a generalizing s with
  | nil => rfl
  | cons T a ih =>
    simp only [List.cons_append, buildB]
    cases stepB s T with
    | ok s2 => exact ih s2
    | bad s2 c p => rfl
/-- where the outermost open list begins -/
def BS.first (s : BS) : Int := match s.opn.getLast? with
  | none => 0
  | some o => o.b
def b0 : BS := ⟨[], []⟩
end Go.Proofs.YtibeiggedmabkaaDoor
