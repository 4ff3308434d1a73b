/-
  S-expressions out of tokens, without memory: what is whole, what is open, what is wrong and where; the program's way (Feed, then End) and the reference's (all tokens at once) are one.
-/
import Derived.Test.YtibeiggedmabkaaDoorTR9
import Derived.Test.YtibeiggedmabkaaDoorSXN
namespace Go.Proofs.YtibeiggedmabkaaDoor
set_option linter.unusedVariables false
set_option linter.unusedSimpArgs false

/-- a list that is open: where it begins, what stands in it so far -/
structure Opn where
  b : Int
  l : Int
  c : Int
  kids : List Nd
/-- what tokens have made: what is whole, and the lists that are open, the innermost one first -/
structure BS where
  nodes : List Nd
  opn : List Opn
def BS.push (s : BS) (n : Nd) : BS :=
  match s.opn with
  | [] => { s with nodes := s.nodes ++ [n] }
  | o :: r => { s with opn := { o with kids := o.kids ++ [n] } :: r }
/-- a list's node, at its closing bracket -/
def Opn.node (o : Opn) (e : Int) : Nd := .mk ⟨0, ⟨#[]⟩, o.b, e, o.l, o.c⟩ o.kids
inductive BR where
  | ok (s : BS)
  | bad (s : BS) (code place : Int)
def stepB (s : BS) (T : Tok) : BR :=
  if T.k = 1 then (if s.opn.length = 1000 then .bad s 132 T.b else .ok { s with opn := ⟨T.b, T.l, T.c, []⟩ :: s.opn })
  else if T.k = 2 then (match s.opn with
    | [] => .bad s 130 T.b
    | o :: r => .ok (({ s with opn := r } : BS).push (o.node T.e)))
  else .ok (s.push (.mk T []))
def buildB (s : BS) : List Tok → BR
  | [] => .ok s
  | T :: l => match stepB s T with
    | .ok s2 => buildB s2 l
    | .bad s2 c p => .bad s2 c p
theorem buildB_app (s : BS) (a b : List Tok) : buildB s (a ++ b) = match buildB s a with
    | .ok s2 => buildB s2 b
    | .bad s2 c p => .bad s2 c p := by
  induction a generalizing s with
  | nil => rfl
  | cons T a ih =>
    simp only [List.cons_append, buildB]
    cases stepB s T with
    | ok s2 => exact ih s2
    | bad s2 c p => rfl
/-- where the outermost open list begins -/
def BS.first (s : BS) : Int := match s.opn.getLast? with
  | none => 0
  | some o => o.b
def b0 : BS := ⟨[], []⟩
def finR (L : List Tok) (e pl : Int) : List Nd × Int × Int :=
  match buildB b0 L with
  | .bad s c p => (s.nodes, c, p)
  | .ok s => if e ≠ 0 then (s.nodes, e, pl) else if s.opn ≠ [] then (s.nodes, 131, s.first) else (s.nodes, 0, 0)
/-- the reference's way: all tokens, then what else is wrong -/
def readR (S : List UInt8) : List Nd × Int × Int := finR (allF S 0).1 (allF S 0).2.1 (allF S 0).2.2.1
/-- the program's way: what Feed tells, then what End tells -/
def readF (S : List UInt8) : List Nd × Int × Int :=
  match feedP pI S with
  | (ts, o) => match buildB b0 ts with
    | .bad s c p => (s.nodes, c, p)
    | .ok s => match o with
      | .bad B _ _ => (s.nodes, 120, B)
      | .ok q => match buildB s (endP q).1 with
        | .bad s2 c p => (s2.nodes, c, p)
        | .ok s2 => if (endP q).2 ≠ 0 then (s2.nodes, (endP q).2, q.bB) else if s2.opn ≠ [] then (s2.nodes, 131, s2.first) else (s2.nodes, 0, 0)
theorem readR_F (S : List UInt8) : readR S = readF S := by
  unfold readR readF allF
  rw [frs_pI, List.drop_zero]
  rcases feedP pI S with ⟨ts, o⟩
  cases o with
  | bad B L C =>
    show finR ts 120 B = _
    unfold finR
    simp only
    rcases hb : buildB b0 ts with s | ⟨s, c, p⟩
    · simp only
      rw [if_pos (by decide)]
    · rfl
  | ok q =>
    show finR (ts ++ (endP q).1) (endP q).2 (if (endP q).2 = 0 then ((0 : Int), (0 : Int), (0 : Int)) else (q.bB, q.bL, q.bC)).1 = _
    unfold finR
    rw [buildB_app]
    simp only
    rcases hb : buildB b0 ts with s | ⟨s, c, p⟩
    · simp only
      rcases hc : buildB s (endP q).1 with s2 | ⟨s2, c, p⟩
      · simp only
        by_cases h : (endP q).2 = 0
        · simp [h]
        · simp [h]
      · rfl
    · rfl
/-- what is whole stays; no more lists are open than may be -/
theorem stepB_keeps {s : BS} {T : Tok} (hs : s.opn.length ≤ 1000) : (∀ s2, stepB s T = .ok s2 → (∃ l, s2.nodes = s.nodes ++ l) ∧ s2.opn.length ≤ 1000) ∧ (∀ s2 c p, stepB s T = .bad s2 c p → s2 = s ∧ (c = 130 ∨ c = 132) ∧ p = T.b) := by
  unfold stepB
  have pushed : ∀ (r : BS) (n : Nd), r.nodes = s.nodes → r.opn.length ≤ 1000 → (∃ l, (r.push n).nodes = s.nodes ++ l) ∧ (r.push n).opn.length ≤ 1000 := fun r n e h => by
    rcases hr : r.opn with _ | ⟨o, r2⟩
    · have e2 : r.push n = { r with nodes := r.nodes ++ [n] } := by unfold BS.push; rw [hr]
      rw [e2]
      exact And.intro ⟨[n], by show r.nodes ++ [n] = _; rw [e]⟩ h
    · have e2 : r.push n = { r with opn := { o with kids := o.kids ++ [n] } :: r2 } := by unfold BS.push; rw [hr]
      rw [e2]
      rw [hr] at h
      exact And.intro ⟨[], by rw [List.append_nil]; exact e⟩ h
  by_cases h1 : T.k = 1
  · rw [if_pos h1]
    by_cases h2 : s.opn.length = 1000
    · rw [if_pos h2]
      refine ⟨fun s2 e => (by cases e), fun s2 c p e => ?_⟩
      injection e with e1 e2 e3
      exact ⟨e1.symm, Or.inr e2.symm, e3.symm⟩
    · rw [if_neg h2]
      refine ⟨fun s2 e => ?_, fun s2 c p e => (by cases e)⟩
      injection e with e
      subst e
      exact ⟨⟨[], by rw [List.append_nil]⟩, by show s.opn.length + 1 ≤ 1000; omega⟩
  rw [if_neg h1]
  by_cases h2 : T.k = 2
  · rw [if_pos h2]
    rcases ho : s.opn with _ | ⟨o, r⟩
    · refine ⟨fun s2 e => (by cases e), fun s2 c p e => ?_⟩
      injection e with e1 e2 e3
      exact ⟨e1.symm, Or.inl e2.symm, e3.symm⟩
    · refine ⟨fun s2 e => ?_, fun s2 c p e => (by cases e)⟩
      injection e with e
      subst e
      rw [ho] at hs
      exact pushed _ _ rfl (by show r.length ≤ 1000; simp only [List.length_cons] at hs; omega)
  · rw [if_neg h2]
    refine ⟨fun s2 e => ?_, fun s2 c p e => (by cases e)⟩
    injection e with e
    subst e
    exact pushed s _ rfl hs
end Go.Proofs.YtibeiggedmabkaaDoor
