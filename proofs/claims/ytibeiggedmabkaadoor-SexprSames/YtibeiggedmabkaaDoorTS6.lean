/-
  The scanner as a function of bytes: characters and bytes say the same; what is cut says the same.
-/
import Derived.Test.YtibeiggedmabkaaDoorTS3
namespace Go.Proofs.YtibeiggedmabkaaDoor
set_option linter.unusedVariables false
set_option linter.unusedSimpArgs false

structure Tok where
  k : Nat
  t : ByteArray
  b : Int
  e : Int
  l : Int
  c : Int
def Tok.cells (T : Tok) : List Value := [.int .i64 T.k, .string T.t, .int .i64 T.b, .int .i64 T.e, .int .i64 T.l, .int .i64 T.c]
def tokCells (L : List Tok) : List Value := L.flatMap Tok.cells
theorem tokCells_len (L : List Tok) : (tokCells L).length = L.length * 6 := by
  induction L with
  | nil => rfl
  | cons a l ih => simp only [tokCells, List.flatMap_cons, List.length_append, List.length_cons] at *; rw [ih]; simp [Tok.cells]; omega
theorem tokCells_app (a b : List Tok) : tokCells (a ++ b) = tokCells a ++ tokCells b := by simp [tokCells]
/-- what has been read -/
structure PS where
  st : Nat
  buf : List UInt8
  bB : Int
  bL : Int
  bC : Int
  rd : Nat
  ln : Nat
  ah : Nat
def PS.tok (p : PS) (e : Nat) : Tok := ⟨kindN p.st, txt p.st ⟨p.buf.toArray⟩, p.bB, e, p.bL, p.bC⟩
inductive Out where
  | ok (p : PS)
  | bad (B L C : Int)
/-- nothing is kept of what is no token -/
def PS.nrm (p : PS) : PS := if p.st ≤ 4 then { p with buf := [], bB := 0, bL := 0, bC := 0 } else p
/-- ahead of a character: the place where a token may begin -/
def PS.beg (p : PS) : PS := if p.st ≤ 4 then { p with buf := [], bB := p.rd, bL := (p.ln : Int) + 1, bC := ((p.rd - p.ah : Nat) : Int) + 1 } else p
/-- the character that goes on, or does not -/
def nxt (st r : Nat) : Nat := if folN st r = 23 then startN r else folN st r
def PS.cut (p : PS) (r : Nat) : PS := if folN p.st r = 23 then { p with st := 3, buf := [] } else p
def PS.told (p : PS) (r : Nat) : List Tok := if folN p.st r = 23 then [p.tok p.rd] else []
def PS.add (p : PS) (q : Nat) (us : List UInt8) : PS := { p with st := q, buf := p.buf ++ us, rd := p.rd + us.length }
/-- one character, whose bytes are us -/
def charP (p : PS) (r : Nat) (us : List UInt8) : List Tok × Out :=
  if nxt p.st r = 24 then (p.told r, .bad (p.cut r).beg.bB (p.cut r).beg.bL (p.cut r).beg.bC)
  else if nxt p.st r = 25 then (p.told r, .bad p.rd ((p.ln : Int) + 1) (((p.rd - p.ah : Nat) : Int) + 1))
  else if nxt p.st r = 5 ∨ nxt p.st r = 6 ∨ nxt p.st r = 9 then (p.told r ++ [((p.cut r).beg.add (nxt p.st r) us).tok (p.rd + us.length)], .ok (PS.nrm { (p.cut r).beg.add (nxt p.st r) us with st := 3 }))
  else if r = 10 then (p.told r, .ok (PS.nrm { (p.cut r).beg.add (nxt p.st r) us with ln := p.ln + 1, ah := p.rd + us.length }))
  else (p.told r, .ok ((p.cut r).beg.add (nxt p.st r) us).nrm)
def feedP (p : PS) : List UInt8 → List Tok × Out
  | [] => ([], .ok p)
  | u :: us => match charP p u.toNat [u] with
    | (ts, .bad B L C) => (ts, .bad B L C)
    | (ts, .ok q) => (ts ++ (feedP q us).1, (feedP q us).2)
theorem feedP_app (p : PS) (a b : List UInt8) : feedP p (a ++ b) = match feedP p a with
    | (ts, .bad B L C) => (ts, .bad B L C)
    | (ts, .ok q) => (ts ++ (feedP q b).1, (feedP q b).2) := by
  induction a generalizing p with
  | nil => simp [feedP]
  | cons u us ih =>
    simp only [List.cons_append, feedP]
    rcases charP p u.toNat [u] with ⟨ts, o⟩
    cases o with
    | bad B L C => rfl
    | ok q =>
      simp only
      rw [ih q]
      rcases feedP q us with ⟨t2, o2⟩
      cases o2 with
      | bad B L C => rfl
      | ok q2 => simp [List.append_assoc]
theorem feedP_one (p : PS) (u : UInt8) : feedP p [u] = charP p u.toNat [u] := by
  simp only [feedP]
  rcases charP p u.toNat [u] with ⟨ts, o⟩
  cases o <;> simp

theorem startN_high {c : Nat} (h : 128 ≤ c) : startN c = 25 := by
  unfold startN
  have h1 : blN c = false := by unfold blN; simp; omega
  have h2 : dgN c = false := by unfold dgN; simp; omega
  rw [h1, h2, syN_high h]
  simp [show c ≠ 59 by omega, show c ≠ 40 by omega, show c ≠ 41 by omega, show c ≠ 124 by omega, show c ≠ 34 by omega, show c ≠ 58 by omega, show c ≠ 35 by omega, show c ≠ 48 by omega]
theorem folN_high {st c : Nat} (hs : st ∈ waits) (h : 128 ≤ c) : folN st c = if st = 4 then 4 else if st = 8 then 8 else if st = 21 then 21 else if st = 3 then 25 else if st = 10 ∨ st = 14 ∨ st = 16 ∨ st = 17 ∨ st = 19 then 24 else 23 := by
  have h1 : blN c = false := by unfold blN; simp; omega
  have h2 : dgN c = false := by unfold dgN; simp; omega
  have h3 : hxN c = false := by unfold hxN; rw [h2]; simp; omega
  have h4 : biN c = false := by unfold biN; simp; omega
  have h5 := syN_high h
  have h6 := nqN_high h
  have h7 := nbN_high h
  have h8 := startN_high h
  have e1 : c ≠ 10 := by omega
  have e2 : c ≠ 13 := by omega
  have e3 : c ≠ 34 := by omega
  have e4 : c ≠ 124 := by omega
  have e5 : c ≠ 46 := by omega
  have e6 : c ≠ 120 := by omega
  have e7 : c ≠ 98 := by omega
  simp only [waits, List.mem_cons, List.not_mem_nil, or_false] at hs
  rcases hs with rfl | rfl | rfl | rfl | rfl | rfl | rfl | rfl | rfl | rfl | rfl | rfl | rfl | rfl | rfl | rfl | rfl <;> simp [folN, quotN, numN, kindN, h1, h2, h3, h4, h5, h6, h7, h8, e1, e2, e3, e4, e5, e6, e7]
theorem nxt_high {st c : Nat} (hs : st ∈ waits) (h : 128 ≤ c) : nxt st c = if st = 4 then 4 else if st = 8 then 8 else if st = 21 then 21 else if st = 10 ∨ st = 14 ∨ st = 16 ∨ st = 17 ∨ st = 19 then 24 else 25 := by
  unfold nxt
  rw [folN_high hs h, startN_high h]
  simp only [waits, List.mem_cons, List.not_mem_nil, or_false] at hs
  rcases hs with rfl | rfl | rfl | rfl | rfl | rfl | rfl | rfl | rfl | rfl | rfl | rfl | rfl | rfl | rfl | rfl | rfl <;> simp
/-- a character of several bytes is as its bytes -/
theorem char_high (p : PS) (hp : p.st ∈ waits) (hn : p.nrm = p) (r : Nat) (hr : 128 ≤ r) (us : List UInt8) (hne : us ≠ []) (hu : ∀ u ∈ us, 128 ≤ u.toNat) : feedP p us = charP p r us := by
  by_cases hs : p.st = 4 ∨ p.st = 8 ∨ p.st = 21
  · have stay : ∀ (c : Nat) (hc : 128 ≤ c) (vs : List UInt8) (q : PS), q.st = p.st → q.nrm = q → charP q c vs = ([], .ok ({ q with buf := (if q.st ≤ 4 then [] else q.buf ++ vs), rd := q.rd + vs.length })) := fun c hc vs q e hq => by
      have hw : q.st ∈ waits := by rw [e]; exact hp
      have e10 : c ≠ 10 := by omega
      rcases hs with h | h | h
      · have hst : q.st = 4 := by rw [e]; exact h
        have hf : folN 4 c = 4 := by have := folN_high (st := 4) (by decide) hc; simpa using this
        have hx : nxt 4 c = 4 := by have := nxt_high (st := 4) (by decide) hc; simpa using this
        obtain ⟨st, buf, bB, bL, bC, rd, ln, ah⟩ := q
        simp only at hst
        subst hst
        simp [PS.nrm] at hq
        obtain ⟨rfl, rfl, rfl, rfl⟩ := hq
        simp [charP, hx, PS.told, PS.cut, hf, PS.beg, PS.add, PS.nrm, e10]
      · have hst : q.st = 8 := by rw [e]; exact h
        have hf : folN 8 c = 8 := by have := folN_high (st := 8) (by decide) hc; simpa using this
        have hx : nxt 8 c = 8 := by have := nxt_high (st := 8) (by decide) hc; simpa using this
        obtain ⟨st, buf, bB, bL, bC, rd, ln, ah⟩ := q
        simp only at hst
        subst hst
        simp [charP, hx, PS.told, PS.cut, hf, PS.beg, PS.add, PS.nrm, e10]
      · have hst : q.st = 21 := by rw [e]; exact h
        have hf : folN 21 c = 21 := by have := folN_high (st := 21) (by decide) hc; simpa using this
        have hx : nxt 21 c = 21 := by have := nxt_high (st := 21) (by decide) hc; simpa using this
        obtain ⟨st, buf, bB, bL, bC, rd, ln, ah⟩ := q
        simp only at hst
        subst hst
        simp [charP, hx, PS.told, PS.cut, hf, PS.beg, PS.add, PS.nrm, e10]
    have all : ∀ (vs : List UInt8) (q : PS), q.st = p.st → q.nrm = q → (∀ u ∈ vs, 128 ≤ u.toNat) → vs ≠ [] → feedP q vs = ([], .ok ({ q with buf := (if q.st ≤ 4 then [] else q.buf ++ vs), rd := q.rd + vs.length })) := by
      intro vs
      induction vs with
      | nil => intro q _ _ _ h; exact absurd rfl h
      | cons u vs ih =>
        intro q e hq hv _
        have hc := stay u.toNat (hv u List.mem_cons_self) [u] q e hq
        simp only [feedP, hc]
        by_cases hvs : vs = []
        · subst hvs
          simp [feedP]
        · have hn2 : PS.nrm { q with buf := (if q.st ≤ 4 then [] else q.buf ++ [u]), rd := q.rd + [u].length } = { q with buf := (if q.st ≤ 4 then [] else q.buf ++ [u]), rd := q.rd + [u].length } := by
            unfold PS.nrm at hq ⊢
            by_cases h4 : q.st ≤ 4
            · simp only [h4, if_true] at hq ⊢
              obtain ⟨st, buf, bB, bL, bC, rd, ln, ah⟩ := q
              simp at hq ⊢
              exact hq.2
            · simp [h4]
          rw [ih _ (by exact e) hn2 (fun x hx => hv x (List.mem_cons_of_mem _ hx)) hvs]
          by_cases h4 : q.st ≤ 4
          · simp [h4]; omega
          · simp [h4]; omega
    rw [all us p rfl hn hu hne, stay r hr us p rfl hn]
  · have key : ∀ (c : Nat), 128 ≤ c → (nxt p.st c = 24 ∨ nxt p.st c = 25) := fun c hc => by
      rw [nxt_high hp hc]
      have h4 : p.st ≠ 4 := fun e => hs (Or.inl e)
      have h8 : p.st ≠ 8 := fun e => hs (Or.inr (Or.inl e))
      have h21 : p.st ≠ 21 := fun e => hs (Or.inr (Or.inr e))
      simp only [h4, h8, h21, if_false]
      split
      · exact Or.inl rfl
      · exact Or.inr rfl
    have same : ∀ (c d : Nat), 128 ≤ c → 128 ≤ d → folN p.st c = folN p.st d ∧ nxt p.st c = nxt p.st d := fun c d hc hd => ⟨by rw [folN_high hp hc, folN_high hp hd], by rw [nxt_high hp hc, nxt_high hp hd]⟩
    cases us with
    | nil => exact absurd rfl hne
    | cons u vs =>
      have hu1 := hu u List.mem_cons_self
      obtain ⟨s1, s2⟩ := same u.toNat r hu1 hr
      have e : charP p u.toNat [u] = charP p r (u :: vs) := by
        rcases key r hr with h | h
        · unfold charP
          rw [s2, if_pos h, if_pos h]
          simp only [PS.told, PS.cut, s1]
        · unfold charP
          have h24 : ¬ nxt p.st r = 24 := by omega
          rw [s2, if_neg h24, if_pos h, if_neg h24, if_pos h]
          simp only [PS.told, s1]
      have bad : ∃ ts B L C, charP p r (u :: vs) = (ts, .bad B L C) := by
        rcases key r hr with h | h
        · exact ⟨_, _, _, _, by unfold charP; rw [if_pos h]⟩
        · exact ⟨_, _, _, _, by unfold charP; rw [if_neg (by omega), if_pos h]⟩
      obtain ⟨ts, B, L, C, hb⟩ := bad
      simp only [feedP]
      rw [e, hb]
end Go.Proofs.YtibeiggedmabkaaDoor
