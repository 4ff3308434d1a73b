/-
  What the reference's Read tells, from a place on; where an error stands.
-/
import Derived.Test.YtibeiggedmabkaaDoorTR1
namespace Go.Proofs.YtibeiggedmabkaaDoor
set_option linter.unusedVariables false
set_option linter.unusedSimpArgs false

/-- all that is told from here on: tokens, the error, and where it stands -/
def tot : List Tok × Out → List Tok × Int × Int × Int × Int
  | (ts, .bad B L C) => (ts, 120, B, L, C)
  | (ts, .ok q) => (ts ++ (endP q).1, (endP q).2, if (endP q).2 = 0 then (0, 0, 0) else (q.bB, q.bL, q.bC))
def allF (S : List UInt8) (k : Nat) : List Tok × Int × Int × Int × Int := tot (feedP (frs S 3 k) (S.drop k))
theorem tot_cons (t : Tok) (r : List Tok × Out) : tot (consT t r) = (t :: (tot r).1, (tot r).2) := by
  rcases r with ⟨ts, o⟩
  cases o <;> rfl
theorem frs_pI (S : List UInt8) : frs S 3 0 = pI := rfl
theorem allF_zero (S : List UInt8) : (allF S 0).1 = (allP S).1 ∧ (allF S 0).2.1 = (allP S).2 ∧ ((allP S).2 ≠ 0 → (allF S 0).2.2 = allE S) := by
  unfold allF allP allE
  rw [frs_pI, List.drop_zero]
  rcases feedP pI S with ⟨ts, o⟩
  cases o with
  | bad B L C => exact ⟨rfl, rfl, fun _ => rfl⟩
  | ok q => exact ⟨rfl, rfl, fun c => if_neg c⟩
theorem allF_none {S : List UInt8} {st : Nat} (hs : st = 3 ∨ st = 4) : tot (feedP (frs S st S.length) (S.drop S.length)) = ([], 0, 0, 0, 0) := by
  rw [List.drop_length]
  rcases hs with rfl | rfl <;> rfl
theorem allF_end (S : List UInt8) : allF S S.length = ([], 0, 0, 0, 0) := allF_none (Or.inl rfl)
/-- over blanks and comments -/
theorem allF_gap {S : List UInt8} {k : Nat} (hk : k ≤ S.length) : allF S (gapE S 3 k) = allF S k := by
  obtain ⟨a1, a2, a3, st', b1, b2, b3⟩ := gapE_spec S 3 k (Or.inl rfl) hk
  unfold allF
  rw [b3]
  by_cases h : gapE S 3 k < S.length
  · rw [b2 h]
  · have e : gapE S 3 k = S.length := by omega
    rw [e, allF_none b1, allF_none (Or.inl rfl)]
theorem allF_tok {S : List UInt8} {i k e : Nat} {t : ByteArray} {self : Bool} (h : Stp S i (.tok k t e self)) : allF S i = (tokAt S k t i e :: (allF S e).1, (allF S e).2) := by
  obtain ⟨h1, h2, _, h3, h4⟩ := h
  by_cases hc : self = true ∨ e < S.length
  · unfold allF
    rw [h3 hc, tot_cons]
  · have hs : self = false := by cases self; rfl; exact absurd (Or.inl rfl) hc
    have he : e = S.length := by
      rcases Nat.lt_or_ge e S.length with q | q
      · exact absurd (Or.inr q) hc
      · omega
    obtain ⟨st, f1, f2, f3⟩ := h4 hs he
    have e2 : allF S e = ([], 0, 0, 0, 0) := by rw [he]; exact allF_end S
    rw [e2]
    unfold allF
    rw [f1]
    simp only [tot]
    rw [f3]
    rfl
theorem allF_half {S : List UInt8} {i : Nat} {code : Int} (h : Stp S i (.half code)) : code ≠ 0 ∧ allF S i = ([], code, (i : Int), (nlN S i : Int) + 1, ((i - ahN S i : Nat) : Int) + 1) := by
  obtain ⟨st, f1, f2, f3, f4⟩ := h
  have hc : code ≠ 0 := by omega
  refine ⟨hc, ?_⟩
  unfold allF
  rw [f1]
  simp only [tot]
  rw [f3]
  simp only [if_neg hc]
  rfl
theorem allF_bad {S : List UInt8} {i x : Nat} (h : Stp S i (.bad x)) : allF S i = ([], 120, (x : Int), (nlN S x : Int) + 1, ((x - ahN S x : Nat) : Int) + 1) := by
  obtain ⟨_, _, h⟩ := h
  unfold allF
  rw [h]
  rfl
end Go.Proofs.YtibeiggedmabkaaDoor

namespace Go.Proofs.YtibeiggedmabkaaDoor
set_option linter.unusedVariables false
set_option linter.unusedSimpArgs false

/-- tokens, the error, and where it is or where what is open begins -/
def rdO (fin : Bool) (n : Nat) : List Tok × Out → List Tok × Int × Int
  | (ts, .bad B L C) => (ts, 120, B)
  | (ts, .ok q) => if fin = true then (ts ++ (endP q).1, (endP q).2, if (endP q).2 = 0 then (n : Int) else q.bB) else (ts, 0, if 4 < q.st then q.bB else (n : Int))
def rdF (fin : Bool) (S : List UInt8) (k : Nat) : List Tok × Int × Int := rdO fin S.length (feedP (frs S 3 k) (S.drop k))
theorem rdO_cons (fin : Bool) (n : Nat) (t : Tok) (r : List Tok × Out) : rdO fin n (consT t r) = (t :: (rdO fin n r).1, (rdO fin n r).2) := by
  rcases r with ⟨ts, o⟩
  cases o with
  | bad B L C => rfl
  | ok q => cases fin <;> rfl
theorem rdF_none {S : List UInt8} {st : Nat} (fin : Bool) (hs : st = 3 ∨ st = 4) : rdO fin S.length (feedP (frs S st S.length) (S.drop S.length)) = ([], 0, (S.length : Int)) := by
  rw [List.drop_length]
  rcases hs with rfl | rfl <;> cases fin <;> rfl
theorem rdF_end (fin : Bool) (S : List UInt8) : rdF fin S S.length = ([], 0, (S.length : Int)) := rdF_none fin (Or.inl rfl)
theorem rdF_gap {S : List UInt8} {k : Nat} (fin : Bool) (hk : k ≤ S.length) : rdF fin S (gapE S 3 k) = rdF fin S k := by
  obtain ⟨a1, a2, a3, st', b1, b2, b3⟩ := gapE_spec S 3 k (Or.inl rfl) hk
  unfold rdF
  rw [b3]
  by_cases h : gapE S 3 k < S.length
  · rw [b2 h]
  · have e : gapE S 3 k = S.length := by omega
    rw [e, rdF_none fin b1, rdF_none fin (Or.inl rfl)]
theorem rdF_tok {S : List UInt8} {i k e : Nat} {t : ByteArray} {self fin : Bool} (h : Stp S i (.tok k t e self)) (ho : ¬ (self = false ∧ e = S.length ∧ fin = false)) : rdF fin S i = (tokAt S k t i e :: (rdF fin S e).1, (rdF fin S e).2) := by
  obtain ⟨h1, h2, _, h3, h4⟩ := h
  by_cases hc : self = true ∨ e < S.length
  · unfold rdF
    rw [h3 hc, rdO_cons]
  · have hs : self = false := by cases self; rfl; exact absurd (Or.inl rfl) hc
    have he : e = S.length := by
      rcases Nat.lt_or_ge e S.length with q | q
      · exact absurd (Or.inr q) hc
      · omega
    have hf : fin = true := by cases fin; exact absurd ⟨hs, he, rfl⟩ ho; rfl
    subst hf
    obtain ⟨st, f1, f2, f3⟩ := h4 hs he
    have e2 : rdF true S e = ([], 0, (S.length : Int)) := by rw [he]; exact rdF_end true S
    rw [e2]
    unfold rdF
    rw [f1]
    simp only [rdO]
    rw [f3]
    rfl
theorem rdF_open {S : List UInt8} {i k e : Nat} {t : ByteArray} (h : Stp S i (.tok k t e false)) (he : e = S.length) : rdF false S i = ([], 0, (i : Int)) := by
  obtain ⟨h1, h2, _, h3, h4⟩ := h
  obtain ⟨st, f1, f2, f3⟩ := h4 rfl he
  unfold rdF
  rw [f1]
  simp only [rdO]
  rw [if_pos (show 4 < (mid S st i e).st from f2)]
  rfl
theorem rdF_half {S : List UInt8} {i : Nat} {code : Int} (h : Stp S i (.half code)) : rdF true S i = ([], code, (i : Int)) ∧ rdF false S i = ([], 0, (i : Int)) := by
  obtain ⟨st, f1, f2, f3, f4⟩ := h
  have hc : code ≠ 0 := by omega
  unfold rdF
  rw [f1]
  simp only [rdO]
  rw [f3]
  refine ⟨?_, ?_⟩
  · simp only [if_neg hc]
    rfl
  · rw [if_pos (show 4 < (mid S st i S.length).st from f2)]
    rfl
theorem rdF_bad {S : List UInt8} {i x : Nat} (fin : Bool) (h : Stp S i (.bad x)) : rdF fin S i = ([], 120, (x : Int)) := by
  obtain ⟨_, _, h⟩ := h
  unfold rdF
  rw [h]
  rfl
/-- an error's line and column are its place's -/
theorem allF_place (S : List UInt8) (k : Nat) (hk : k ≤ S.length) (hc : (allF S k).2.1 ≠ 0) : ∃ b : Nat, b < S.length ∧ (allF S k).2.2 = ((b : Int), (nlN S b : Int) + 1, ((b - ahN S b : Nat) : Int) + 1) := by
  obtain ⟨a1, a2, a3, _⟩ := gapE_spec S 3 k (Or.inl rfl) hk
  have eg := allF_gap hk
  rw [← eg] at hc ⊢
  by_cases hl : gapE S 3 k < S.length
  · have hs := look_step hl (a3 hl)
    rcases hX : lookP S (gapE S 3 k) with ⟨kk, t, e, self⟩ | code | x
    · rw [hX] at hs
      have h1 := hs.1
      have h2 := hs.2.1
      have ht := allF_tok hs
      rw [ht] at hc ⊢
      exact allF_place S e h2 hc
    · rw [hX] at hs
      exact ⟨_, hl, by rw [(allF_half hs).2]⟩
    · rw [hX] at hs
      have h1 := hs.2.1
      exact ⟨x, h1, by rw [allF_bad hs]⟩
  · have e : gapE S 3 k = S.length := by omega
    rw [e, allF_end] at hc
    exact absurd rfl hc
termination_by S.length - k
decreasing_by omega
theorem rdF_zero (S : List UInt8) : (rdF true S 0).1 = (allP S).1 ∧ (rdF true S 0).2.1 = (allP S).2 ∧ ((allP S).2 ≠ 0 → ∃ b : Nat, b < S.length ∧ (rdF true S 0).2.2 = (b : Int) ∧ allE S = ((b : Int), (nlN S b : Int) + 1, ((b - ahN S b : Nat) : Int) + 1)) := by
  obtain ⟨z1, z2, z3⟩ := allF_zero S
  have hp := allF_place S 0 (Nat.zero_le _)
  have key : (rdF true S 0).1 = (allF S 0).1 ∧ (rdF true S 0).2.1 = (allF S 0).2.1 ∧ ((allF S 0).2.1 ≠ 0 → (rdF true S 0).2.2 = (allF S 0).2.2.1) := by
    unfold rdF allF
    rcases feedP (frs S 3 0) (S.drop 0) with ⟨ts, o⟩
    cases o with
    | bad B L C => exact ⟨rfl, rfl, fun _ => rfl⟩
    | ok q =>
      simp only [rdO, tot]
      refine ⟨rfl, rfl, fun c => ?_⟩
      have c2 : (endP q).2 ≠ 0 := c
      simp only [if_neg c2, if_true]
  refine ⟨key.1.trans z1, key.2.1.trans z2, fun c => ?_⟩
  have c2 : (allF S 0).2.1 ≠ 0 := by rw [z2]; exact c
  obtain ⟨b, hb, e⟩ := hp c2
  refine ⟨b, hb, ?_, ?_⟩
  · rw [key.2.2 c2, e]
  · rw [← z3 c, e]
end Go.Proofs.YtibeiggedmabkaaDoor
