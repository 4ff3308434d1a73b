/-
  Nodes.
-/
import Derived.Test.YtibeiggedmabkaaDoorTS6
namespace Go.Proofs.YtibeiggedmabkaaDoor
set_option linter.unusedVariables false

/-- a node: its token and what stands in it -/
inductive Nd where
  | mk (t : Tok) (kids : List Nd)
def Nd.t : Nd → Tok
  | .mk t _ => t
def Nd.kids : Nd → List Nd
  | .mk _ k => k
end Go.Proofs.YtibeiggedmabkaaDoor
