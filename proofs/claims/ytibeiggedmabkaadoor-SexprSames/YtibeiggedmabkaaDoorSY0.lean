/-
  A reader of S-expressions, without memory: what each Feed tells, what End tells; however a text is cut, together they tell what Read tells.
-/
import Derived.Test.YtibeiggedmabkaaDoorSX0
namespace Go.Proofs.YtibeiggedmabkaaDoor
set_option linter.unusedVariables false
set_option linter.unusedSimpArgs false

/-- a reader: it reads (the lists that are open, the scanner), or it is over (how many were open, by what, where) -/
inductive RS where
  | go (o : List Opn) (p : PS)
  | over (d : Nat) (e q : Int)
/-- what a Feed tells: nodes, the error, the reader behind it -/
def feedF (r : RS) (S : List UInt8) : List Nd × Int × RS :=
  match r with
  | .over d e q => ([], (if e = 0 then 131 else e), .over d e q)
  | .go o p => match feedP p S with
    | (ts, out) => match buildB ⟨[], o⟩ ts with
      | .bad s c q => (s.nodes, c, .over s.opn.length c q)
      | .ok s => match out with
        | .bad B _ _ => (s.nodes, 120, .over s.opn.length 120 B)
        | .ok q => (s.nodes, 0, .go s.opn q)
/-- what End tells: nodes, the error, its place, the reader behind it -/
def endF (r : RS) : List Nd × Int × Int × RS :=
  match r with
  | .over d e q => ([], e, q, .over d e q)
  | .go o p => match buildB ⟨[], o⟩ (endP p).1 with
    | .bad s c q => (s.nodes, c, q, .over s.opn.length c q)
    | .ok s => if (endP p).2 ≠ 0 then (s.nodes, (endP p).2, p.bB, .over s.opn.length (endP p).2 p.bB)
      else if s.opn ≠ [] then (s.nodes, 131, s.first, .over s.opn.length 131 s.first) else (s.nodes, 0, 0, .over 0 0 0)
def rs0 : RS := .go [] pI
/-- what is whole already does not matter -/
def BR.pre (n : List Nd) : BR → BR
  | .ok s => .ok ⟨n ++ s.nodes, s.opn⟩
  | .bad s c p => .bad ⟨n ++ s.nodes, s.opn⟩ c p
theorem push_pre (n : List Nd) (s : BS) (x : Nd) : (⟨n ++ s.nodes, s.opn⟩ : BS).push x = ⟨n ++ (s.push x).nodes, (s.push x).opn⟩ := by
  unfold BS.push
  rcases s with ⟨ns, _ | ⟨o, r⟩⟩
  · simp
  · simp
theorem stepB_pre (n : List Nd) (s : BS) (T : Tok) : stepB ⟨n ++ s.nodes, s.opn⟩ T = (stepB s T).pre n := by
  unfold stepB
  by_cases h1 : T.k = 1
  · rw [if_pos h1, if_pos h1]
    by_cases h2 : s.opn.length = 1000
    · rw [if_pos h2, if_pos h2]; rfl
    · rw [if_neg h2, if_neg h2]; rfl
  rw [if_neg h1, if_neg h1]
  by_cases h2 : T.k = 2
  · rw [if_pos h2, if_pos h2]
    rcases s with ⟨ns, _ | ⟨o, r⟩⟩
    · rfl
    · exact congrArg BR.ok (push_pre n ⟨ns, r⟩ (o.node T.e))
  · rw [if_neg h2, if_neg h2]
    exact congrArg BR.ok (push_pre n s (.mk T []))
theorem buildB_pre (n : List Nd) (l : List Tok) : ∀ s : BS, buildB ⟨n ++ s.nodes, s.opn⟩ l = (buildB s l).pre n := by
  induction l with
  | nil => intro s; rfl
  | cons T l ih =>
    intro s
    simp only [buildB]
    rw [stepB_pre]
    rcases stepB s T with s2 | ⟨s2, c, p⟩
    · exact ih s2
    · rfl
theorem buildB_from (n : List Nd) (o : List Opn) (l : List Tok) : buildB ⟨n, o⟩ l = (buildB ⟨[], o⟩ l).pre n := by
  have := buildB_pre n l ⟨[], o⟩
  simpa using this
theorem stepB_code {s s2 : BS} {T : Tok} {c q : Int} (h : stepB s T = .bad s2 c q) : c ≠ 0 := by
  unfold stepB at h
  split at h
  · split at h
    · injection h with _ h _; omega
    · cases h
  · split at h
    · split at h
      · injection h with _ h _; omega
      · cases h
    · cases h
theorem buildB_code {ts : List Tok} : ∀ {s s2 : BS} {c q : Int}, buildB s ts = .bad s2 c q → c ≠ 0 := by
  induction ts with
  | nil => intro s s2 c q h; cases h
  | cons T l ih =>
    intro s s2 c q h
    simp only [buildB] at h
    split at h
    · exact ih h
    · rename_i s3 c3 q3 hs
      injection h with _ h2 _
      subst h2
      exact stepB_code hs
/-- a piece, and another one behind it -/
theorem feedF_app (r : RS) (a b : List UInt8) (hr : ∀ d e q, r = .over d e q → e ≠ 0) : feedF r (a ++ b) = ((feedF r a).1 ++ (feedF (feedF r a).2.2 b).1, (feedF (feedF r a).2.2 b).2) := by
  cases r with
  | over d e q =>
    have he := hr d e q rfl
    simp only [feedF, if_neg he, List.append_nil]
  | go o p =>
    simp only [feedF]
    rw [feedP_app]
    rcases hf : feedP p a with ⟨ts, out⟩
    cases out with
    | bad B L C =>
      simp only
      rcases hb : buildB ⟨[], o⟩ ts with s | ⟨s, c, q⟩
      · simp only [List.append_nil]
        rw [if_neg (by decide)]
      · have := buildB_code hb
        simp only [List.append_nil]
        rw [if_neg this]
    | ok q =>
      simp only
      rcases hg : feedP q b with ⟨us, out2⟩
      rw [buildB_app]
      rcases hb : buildB ⟨[], o⟩ ts with s | ⟨s, c, q2⟩
      · simp only
        have e : buildB s us = (buildB ⟨[], s.opn⟩ us).pre s.nodes := buildB_from s.nodes s.opn us
        rw [e, hg]
        rcases buildB ⟨[], s.opn⟩ us with s2 | ⟨s2, c, q3⟩
        · cases out2 with
          | bad B L C => rfl
          | ok q4 => rfl
        · rfl
      · have := buildB_code hb
        simp only [List.append_nil]
        rw [if_neg this]
/-- no Feed ends well -/
theorem feedF_over (r : RS) (a : List UInt8) (hr : ∀ d e q, r = .over d e q → e ≠ 0) : ∀ d e q, (feedF r a).2.2 = .over d e q → e ≠ 0 ∧ (feedF r a).2.1 = e := by
  intro d e q h
  cases r with
  | over d2 e2 q2 =>
    have he := hr d2 e2 q2 rfl
    simp only [feedF] at h ⊢
    injection h with h1 h2 h3
    subst h2
    exact ⟨he, by rw [if_neg he]⟩
  | go o p =>
    simp only [feedF] at h ⊢
    rcases hf : feedP p a with ⟨ts, out⟩
    rw [hf] at h
    simp only at h ⊢
    rcases hb : buildB ⟨[], o⟩ ts with s | ⟨s, c, q2⟩
    · rw [hb] at h
      cases out with
      | bad B L C =>
        simp only at h ⊢
        injection h with h1 h2 h3
        subst h2
        exact ⟨by decide, rfl⟩
      | ok q4 => simp only at h; cases h
    · rw [hb] at h
      simp only at h ⊢
      injection h with h1 h2 h3
      subst h2
      exact ⟨buildB_code hb, rfl⟩
theorem feedF_go (r : RS) (a : List UInt8) (o : List Opn) (p : PS) (h : (feedF r a).2.2 = .go o p) : (feedF r a).2.1 = 0 := by
  cases r with
  | over d2 e2 q2 => simp only [feedF] at h; cases h
  | go o p =>
    simp only [feedF] at h ⊢
    rcases hf : feedP p a with ⟨ts, out⟩
    rw [hf] at h
    simp only at h ⊢
    rcases hb : buildB ⟨[], o⟩ ts with s | ⟨s, c, q2⟩
    · rw [hb] at h
      cases out with
      | bad B L C => simp only at h; cases h
      | ok q4 => rfl
    · rw [hb] at h
      simp only at h
      cases h
/-- Feed and End, of a whole text: what Read tells -/
def readG (S : List UInt8) : List Nd × Int × Int := ((feedF rs0 S).1 ++ (endF (feedF rs0 S).2.2).1, (endF (feedF rs0 S).2.2).2.1, (endF (feedF rs0 S).2.2).2.2.1)
theorem readG_F (S : List UInt8) : readG S = readF S := by
  unfold readG readF rs0
  simp only [feedF]
  show _ = (match feedP pI S with
    | (ts, o) => match buildB b0 ts with
      | .bad s c p => (s.nodes, c, p)
      | .ok s => match o with
        | .bad B _ _ => (s.nodes, 120, B)
        | .ok q => match buildB s (endP q).1 with
          | .bad s2 c p => (s2.nodes, c, p)
          | .ok s2 => if (endP q).2 ≠ 0 then (s2.nodes, (endP q).2, q.bB) else if s2.opn ≠ [] then (s2.nodes, 131, s2.first) else (s2.nodes, 0, 0))
  rcases feedP pI S with ⟨ts, out⟩
  simp only [b0]
  rcases hb : buildB ⟨[], []⟩ ts with s | ⟨s, c, q2⟩
  · cases out with
    | bad B L C => simp [endF]
    | ok q =>
      simp only [endF]
      have e : buildB s (endP q).1 = (buildB ⟨[], s.opn⟩ (endP q).1).pre s.nodes := buildB_from s.nodes s.opn _
      rw [e]
      rcases buildB ⟨[], s.opn⟩ (endP q).1 with s2 | ⟨s2, c, q3⟩
      · simp only [BR.pre]
        by_cases h : (endP q).2 = 0
        · by_cases h2 : s2.opn = []
          · simp [h, h2]
          · simp [h, h2, BS.first]
        · simp [h]
      · rfl
  · simp [endF]
/-- all pieces -/
def feedsF (r : RS) : List (List UInt8) → List Nd × RS
  | [] => ([], r)
  | a :: l => ((feedF r a).1 ++ (feedsF (feedF r a).2.2 l).1, (feedsF (feedF r a).2.2 l).2)
end Go.Proofs.YtibeiggedmabkaaDoor
