/-
  What the reference's Read tells of a whole text: by the looks, one behind the other.
-/
import Derived.Test.YtibeiggedmabkaaDoorTR1
namespace Go.Proofs.YtibeiggedmabkaaDoor
set_option linter.unusedVariables false
set_option linter.unusedSimpArgs false

/-- all that is told from here on: tokens, the error, and where it stands -/
def tot : List Tok × Out → List Tok × Int × Int × Int × Int
  | (ts, .bad B L C) => (ts, 120, B, L, C)
  | (ts, .ok q) => (ts ++ (endP q).1, (endP q).2, if (endP q).2 = 0 then (0, 0, 0) else (q.bB, q.bL, q.bC))
def allF (S : List UInt8) (k : Nat) : List Tok × Int × Int × Int × Int := tot (feedP (frs S 3 k) (S.drop k))
theorem tot_cons (t : Tok) (r : List Tok × Out) : tot (consT t r) = (t :: (tot r).1, (tot r).2) := by
  rcases r with ⟨ts, o⟩
  cases o <;> rfl
theorem frs_pI (S : List UInt8) : frs S 3 0 = pI := rfl
theorem allF_zero (S : List UInt8) : (allF S 0).1 = (allP S).1 ∧ (allF S 0).2.1 = (allP S).2 ∧ ((allP S).2 ≠ 0 → (allF S 0).2.2 = allE S) := by
  unfold allF allP allE
  rw [frs_pI, List.drop_zero]
  rcases feedP pI S with ⟨ts, o⟩
  cases o with
  | bad B L C => exact ⟨rfl, rfl, fun _ => rfl⟩
  | ok q => exact ⟨rfl, rfl, fun c => if_neg c⟩
theorem allF_none {S : List UInt8} {st : Nat} (hs : st = 3 ∨ st = 4) : tot (feedP (frs S st S.length) (S.drop S.length)) = ([], 0, 0, 0, 0) := by
  rw [List.drop_length]
  rcases hs with rfl | rfl <;> rfl
theorem allF_end (S : List UInt8) : allF S S.length = ([], 0, 0, 0, 0) := allF_none (Or.inl rfl)
/-- over blanks and comments -/
theorem allF_gap {S : List UInt8} {k : Nat} (hk : k ≤ S.length) : allF S (gapE S 3 k) = allF S k := by
  obtain ⟨a1, a2, a3, st', b1, b2, b3⟩ := gapE_spec S 3 k (Or.inl rfl) hk
  unfold allF
  rw [b3]
  by_cases h : gapE S 3 k < S.length
  · rw [b2 h]
  · have e : gapE S 3 k = S.length := by omega
    rw [e, allF_none b1, allF_none (Or.inl rfl)]
theorem allF_tok {S : List UInt8} {i k e : Nat} {t : ByteArray} {self : Bool} (h : Stp S i (.tok k t e self)) : allF S i = (tokAt S k t i e :: (allF S e).1, (allF S e).2) := by
  obtain ⟨h1, h2, _, h3, h4⟩ := h
  by_cases hc : self = true ∨ e < S.length
  · unfold allF
    rw [h3 hc, tot_cons]
  · have hs : self = false := by cases self; rfl; exact absurd (Or.inl rfl) hc
    have he : e = S.length := by
      rcases Nat.lt_or_ge e S.length with q | q
      · exact absurd (Or.inr q) hc
      · omega
    obtain ⟨st, f1, f2, f3⟩ := h4 hs he
    have e2 : allF S e = ([], 0, 0, 0, 0) := by rw [he]; exact allF_end S
    rw [e2]
    unfold allF
    rw [f1]
    simp only [tot]
    rw [f3]
    rfl
theorem allF_half {S : List UInt8} {i : Nat} {code : Int} (h : Stp S i (.half code)) : code ≠ 0 ∧ allF S i = ([], code, (i : Int), (nlN S i : Int) + 1, ((i - ahN S i : Nat) : Int) + 1) := by
  obtain ⟨st, f1, f2, f3, f4⟩ := h
  have hc : code ≠ 0 := by omega
  refine ⟨hc, ?_⟩
  unfold allF
  rw [f1]
  simp only [tot]
  rw [f3]
  simp only [if_neg hc]
  rfl
theorem allF_bad {S : List UInt8} {i x : Nat} (h : Stp S i (.bad x)) : allF S i = ([], 120, (x : Int), (nlN S x : Int) + 1, ((x - ahN S x : Nat) : Int) + 1) := by
  obtain ⟨_, _, h⟩ := h
  unfold allF
  rw [h]
  rfl
end Go.Proofs.YtibeiggedmabkaaDoor
