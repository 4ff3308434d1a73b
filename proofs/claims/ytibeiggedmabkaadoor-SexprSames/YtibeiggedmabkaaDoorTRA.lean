/-
  The reference's way through a text, as plain functions: the place behind bytes of a sort, behind blanks and comments; what one look at a place sees.
-/
import Derived.Test.YtibeiggedmabkaaDoorTSE
namespace Go.Proofs.YtibeiggedmabkaaDoor
set_option linter.unusedVariables false
set_option linter.unusedSimpArgs false

/-- the text's bytes from i to j -/
def subS (S : List UInt8) (i j : Nat) : List UInt8 := (S.drop i).take (j - i)
theorem subS_self (S : List UInt8) (i : Nat) : subS S i i = [] := by simp [subS]
theorem subS_succ {S : List UInt8} {i j : Nat} (h1 : i ≤ j) (h2 : j < S.length) : subS S i (j + 1) = subS S i j ++ [S[j]] := by
  unfold subS
  rw [show j + 1 - i = (j - i) + 1 by omega, List.take_add_one, List.getElem?_drop, show i + (j - i) = j by omega, List.getElem?_eq_getElem h2]
  rfl
theorem subS_len {S : List UInt8} {i j : Nat} (h1 : i ≤ j) (h2 : j ≤ S.length) : (subS S i j).length = j - i := by
  unfold subS
  rw [List.length_take, List.length_drop]
  omega
theorem subS_drop (S : List UInt8) (i j k : Nat) : (subS S i j).drop k = subS S (i + k) j := by
  unfold subS
  rw [List.drop_take, List.drop_drop, show j - i - k = j - (i + k) by omega]
theorem subS_take {S : List UInt8} {i j k : Nat} (h : i ≤ k) (h2 : k ≤ j) : (subS S i j).take (k - i) = subS S i k := by
  unfold subS
  rw [List.take_take, show min (k - i) (j - i) = k - i by omega]
theorem byS_at {S : List UInt8} {j : Nat} (h : j < S.length) : byS S j = S[j].toNat := by
  unfold byS
  rw [List.getD_eq_getElem?_getD, List.getElem?_eq_getElem h]
  rfl
theorem bx (l : List UInt8) (a b : Nat) : (⟨l.toArray⟩ : ByteArray).extract a b = ⟨((l.take b).drop a).toArray⟩ := by
  have e : ((⟨l.toArray⟩ : ByteArray).extract a b).data = (l.toArray).extract a b := ByteArray.data_extract
  apply ByteArray.ext
  rw [e]
  simp [List.extract_eq_take_drop, List.drop_take]
theorem sub_is {s : ByteArray} {S : List UInt8} (hS : s.data.toList = S) (a b : Nat) : s.extract a b = ⟨(subS S a b).toArray⟩ := by
  have e : s = ⟨S.toArray⟩ := by apply ByteArray.ext; rw [← hS]
  rw [e, bx]
  unfold subS
  rw [List.drop_take]
/-- the place behind the bytes of a sort -/
def runE (f : Nat → Bool) (S : List UInt8) (i : Nat) : Nat := if h : i < S.length ∧ f (byS S i) = true then runE f S (i + 1) else i
termination_by S.length - i
decreasing_by omega
theorem runE_on {f : Nat → Bool} {S : List UInt8} {i : Nat} (h : i < S.length) (hf : f (byS S i) = true) : runE f S i = runE f S (i + 1) := by
  rw [runE, dif_pos ⟨h, hf⟩]
theorem runE_off {f : Nat → Bool} {S : List UInt8} {i : Nat} (h : ¬ (i < S.length ∧ f (byS S i) = true)) : runE f S i = i := by
  rw [runE, dif_neg h]
theorem runE_spec (f : Nat → Bool) (S : List UInt8) (i : Nat) (hi : i ≤ S.length) : i ≤ runE f S i ∧ runE f S i ≤ S.length ∧ (runE f S i < S.length → f (byS S (runE f S i)) = false) := by
  by_cases h : i < S.length ∧ f (byS S i) = true
  · rw [runE_on h.1 h.2]
    have ih := runE_spec f S (i + 1) (by omega)
    exact ⟨by omega, ih.2⟩
  · rw [runE_off h]
    refine ⟨Nat.le_refl _, hi, fun h2 => ?_⟩
    rcases hb : f (byS S i) with _ | _
    · rfl
    · exact absurd ⟨h2, hb⟩ h
termination_by S.length - i
decreasing_by omega
/-- the place behind blanks and comments -/
def gapE (S : List UInt8) (st i : Nat) : Nat := if h : i < S.length ∧ folN st (byS S i) ≤ 4 then gapE S (folN st (byS S i)) (i + 1) else i
termination_by S.length - i
decreasing_by omega
theorem gapE_on {S : List UInt8} {st i : Nat} (h : i < S.length) (hf : folN st (byS S i) ≤ 4) : gapE S st i = gapE S (folN st (byS S i)) (i + 1) := by
  rw [gapE, dif_pos ⟨h, hf⟩]
theorem gapE_off {S : List UInt8} {st i : Nat} (h : ¬ (i < S.length ∧ folN st (byS S i) ≤ 4)) : gapE S st i = i := by
  rw [gapE, dif_neg h]
/-- what is seen at a place -/
inductive Seen where
  | tok (k : Nat) (t : ByteArray) (e : Nat) (self : Bool)
  | half (code : Int)
  | bad (x : Nat)
def bts (l : List UInt8) : ByteArray := ⟨l.toArray⟩
def qtP (S : List UInt8) (j : Nat) (said : List UInt8) : Seen :=
  if h : j < S.length then
    (if byS S j = 34 then (if j + 1 < S.length ∧ byS S (j + 1) = 34 then qtP S (j + 2) (said ++ [34]) else .tok 9 (bts said) (j + 1) false)
     else if nqN (byS S j) = true then .bad j else qtP S (j + 1) (said ++ [S[j]]))
  else .half 121
termination_by S.length - j
decreasing_by all_goals omega
def barP (S : List UInt8) (i j : Nat) : Seen :=
  if h : j < S.length then (if byS S j = 124 then .tok 3 (bts (subS S (i + 1) j)) (j + 1) true else if nbN (byS S j) = true then .bad j else barP S i (j + 1)) else .half 121
termination_by S.length - j
decreasing_by all_goals omega
def keyP (S : List UInt8) (i : Nat) : Seen :=
  if i + 1 = S.length then .half 120 else if ¬ (syN (byS S (i + 1)) = true ∧ dgN (byS S (i + 1)) = false) then .bad i
  else .tok 4 (bts (subS S (i + 1) (runE syN S (i + 1)))) (runE syN S (i + 1)) false
/-- what stands behind a '#' and its letter -/
def shqP (S : List UInt8) (i k e : Nat) : Seen :=
  if e = S.length then (if e = i + 2 then .half 120 else .tok k (bts (subS S (i + 2) e)) e false)
  else if e = i + 2 ∨ syN (byS S e) = true then .bad i else .tok k (bts (subS S (i + 2) e)) e false
def shpP (S : List UInt8) (i : Nat) : Seen :=
  if i + 1 = S.length then .half 120 else if byS S (i + 1) = 120 then shqP S i 7 (runE hxN S (i + 2)) else if byS S (i + 1) = 98 then shqP S i 8 (runE biN S (i + 2)) else .bad i
/-- a number that ends -/
def nueP (S : List UInt8) (i k e : Nat) : Seen := if e < S.length ∧ syN (byS S e) = true then .bad i else .tok k (bts (subS S i e)) e false
def nubP (S : List UInt8) (i e : Nat) : Seen :=
  if e < S.length ∧ byS S e = 46 then (if e + 1 = S.length then .half 120 else if runE dgN S (e + 1) = e + 1 then .bad i else nueP S i 6 (runE dgN S (e + 1))) else nueP S i 5 e
def numP (S : List UInt8) (i : Nat) : Seen := if byS S i = 48 ∧ i + 1 < runE dgN S i then .bad i else nubP S i (runE dgN S i)
def lookP (S : List UInt8) (i : Nat) : Seen :=
  if byS S i = 40 then .tok 1 ⟨#[40]⟩ (i + 1) true else if byS S i = 41 then .tok 2 ⟨#[41]⟩ (i + 1) true else if byS S i = 34 then qtP S (i + 1) []
  else if byS S i = 124 then barP S i (i + 1) else if byS S i = 58 then keyP S i else if byS S i = 35 then shpP S i else if dgN (byS S i) = true then numP S i
  else if syN (byS S i) = true then .tok 3 (bts (subS S i (runE syN S i))) (runE syN S i) false else .bad i

end Go.Proofs.YtibeiggedmabkaaDoor
