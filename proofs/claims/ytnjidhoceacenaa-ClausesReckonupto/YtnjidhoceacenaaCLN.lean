/-
  Normal clauses, by numbers: the order of literals; a list without repetitions in that order; which has both literals of an atom.
-/
import Derived.Test.YtnjidhoceacenaaCL0
namespace Go.Proofs.Ytnjidhoceacenaa
open Go.RowKit
set_option linter.unusedVariables false
set_option linter.unusedSimpArgs false
/-- x stands ahead of y -/
def ahd (x y : Int) : Prop := atm x < atm y ∨ (atm x = atm y ∧ y < x)
instance (x y : Int) : Decidable (ahd x y) := by unfold ahd; infer_instance
theorem atm_cases (x : Int) : (x < 0 ∧ atm x = -x) ∨ (0 ≤ x ∧ atm x = x) := by
  unfold atm
  split
  · exact Or.inl ⟨by assumption, rfl⟩
  · exact Or.inr ⟨by omega, rfl⟩
theorem ahd_irrefl (x : Int) : ¬ ahd x x := by unfold ahd; omega
theorem ahd_trans {x y z : Int} (h1 : ahd x y) (h2 : ahd y z) : ahd x z := by unfold ahd at *; omega
theorem ahd_asymm {x y : Int} (h : ahd x y) : ¬ ahd y x := fun k => ahd_irrefl x (ahd_trans h k)
theorem ahd_tri {x y : Int} (h : x ≠ y) : ahd x y ∨ ahd y x := by
  have h1 := atm_cases x
  have h2 := atm_cases y
  unfold ahd
  omega
/-- s has what l has, in order, each once -/
def Nrm (l s : List Int) : Prop := s.Pairwise ahd ∧ ∀ x, x ∈ s ↔ x ∈ l
theorem pw_uniq : ∀ {s t : List Int}, s.Pairwise ahd → t.Pairwise ahd → (∀ x, x ∈ s ↔ x ∈ t) → s = t
  | [], [], _, _, _ => rfl
  | [], y :: t, _, _, h => absurd ((h y).2 List.mem_cons_self) (by simp)
  | x :: s, [], _, _, h => absurd ((h x).1 List.mem_cons_self) (by simp)
  | x :: s, y :: t, hs, ht, h => by
    rw [List.pairwise_cons] at hs ht
    have e : x = y := by
      rcases List.mem_cons.1 ((h x).1 List.mem_cons_self) with e | hx
      · exact e
      rcases List.mem_cons.1 ((h y).2 List.mem_cons_self) with e | hy
      · exact e.symm
      exact absurd (hs.1 y hy) (ahd_asymm (ht.1 x hx))
    subst e
    congr 1
    refine pw_uniq hs.2 ht.2 fun z => ?_
    constructor
    · intro hz
      rcases List.mem_cons.1 ((h z).1 (List.mem_cons_of_mem _ hz)) with e | hz'
      · subst e; exact absurd (hs.1 z hz) (ahd_irrefl z)
      · exact hz'
    · intro hz
      rcases List.mem_cons.1 ((h z).2 (List.mem_cons_of_mem _ hz)) with e | hz'
      · subst e; exact absurd (ht.1 z hz) (ahd_irrefl z)
      · exact hz'
theorem Nrm.uniq {l s t : List Int} (h : Nrm l s) (k : Nrm l t) : s = t := pw_uniq h.1 k.1 fun x => (h.2 x).trans (k.2 x).symm
theorem Nrm.congr {l m s : List Int} (h : Nrm l s) (e : ∀ x, x ∈ l ↔ x ∈ m) : Nrm m s := ⟨h.1, fun x => (h.2 x).trans (e x)⟩
/-- it has both literals of some atom -/
def hasB (l : List Int) : Prop := ∃ x, x ∈ l ∧ -x ∈ l
instance (l : List Int) : Decidable (hasB l) := decidable_of_iff (l.any (fun x => decide (-x ∈ l)) = true) (by simp [hasB])
theorem hasB_congr {l m : List Int} (h : ∀ x, x ∈ l ↔ x ∈ m) : hasB l ↔ hasB m := by
  constructor
  · rintro ⟨x, h1, h2⟩; exact ⟨x, (h _).1 h1, (h _).1 h2⟩
  · rintro ⟨x, h1, h2⟩; exact ⟨x, (h _).2 h1, (h _).2 h2⟩
theorem atm_neg (x : Int) : atm (-x) = atm x := by
  have h1 := atm_cases x
  have h2 := atm_cases (-x)
  omega
/-- in order, both literals of an atom are neighbours -/
theorem hasB_next {s : List Int} (hp : s.Pairwise ahd) (h0 : (0 : Int) ∉ s) : hasB s ↔ ∃ i, ∃ h : i + 1 < s.length, s[i]'(by omega) = -s[i + 1] := by
  constructor
  · rintro ⟨x, h1, h2⟩
    have hx0 : x ≠ 0 := fun e => h0 (e ▸ h1)
    have key : ∀ y, y > 0 → y ∈ s → -y ∈ s → ∃ i, ∃ h : i + 1 < s.length, s[i]'(by omega) = -s[i + 1] := by
      intro y hy k1 k2
      obtain ⟨i, hi, e1⟩ := List.getElem_of_mem k1
      obtain ⟨j, hj, e2⟩ := List.getElem_of_mem k2
      have hpw := List.pairwise_iff_getElem.1 hp
      have hij : i < j := by
        by_cases h : i < j
        · exact h
        · by_cases e : i = j
          · subst e; omega
          · have := hpw j i hj hi (by omega)
            rw [e1, e2] at this
            unfold ahd at this
            rw [atm_neg] at this
            omega
      refine ⟨i, by omega, ?_⟩
      by_cases e : i + 1 = j
      · subst e; rw [e1, e2]; omega
      · exfalso
        have a1 := hpw i (i + 1) hi (by omega) (by omega)
        have a2 := hpw (i + 1) j (by omega) hj (by omega)
        generalize s[i + 1] = z at a1 a2
        rw [e1] at a1
        rw [e2] at a2
        unfold ahd at a1 a2
        rw [atm_neg] at a2
        have := atm_cases z
        have := atm_cases y
        omega
    by_cases hp' : x > 0
    · exact key x hp' h1 h2
    · exact key (-x) (by omega) h2 (by rw [Int.neg_neg]; exact h1)
  · rintro ⟨i, h, e⟩
    exact ⟨s[i + 1], List.getElem_mem _, by rw [← e]; exact List.getElem_mem _⟩
/-- the first n of g as a list -/
def lst (g : Nat → Int) (n : Nat) : List Int := (List.range n).map g
theorem lst_length (g : Nat → Int) (n : Nat) : (lst g n).length = n := by simp [lst]
theorem lst_succ (g : Nat → Int) (n : Nat) : lst g (n + 1) = lst g n ++ [g n] := by simp [lst, List.range_succ]
theorem lst_get (g : Nat → Int) (n i : Nat) (h : i < (lst g n).length) : (lst g n)[i] = g i := by simp [lst]
theorem mem_lst {g : Nat → Int} {n : Nat} {x : Int} : x ∈ lst g n ↔ ∃ i, i < n ∧ g i = x := by simp [lst]
theorem lst_congr {g h : Nat → Int} {n : Nat} (e : ∀ i, i < n → g i = h i) : lst g n = lst h n := by
  unfold lst
  exact List.map_congr_left fun i hi => e i (List.mem_range.1 hi)
theorem lst_of (l : List Int) : lst (fun i => l.getD i 0) l.length = l := by
  apply List.ext_getElem
  · simp [lst]
  · intro i h1 h2
    simp [lst, h2]
theorem lst_inj {g h : Nat → Int} {n m : Nat} (e : lst g n = lst h m) : n = m ∧ ∀ i, i < n → g i = h i := by
  have h1 : n = m := by have := congrArg List.length e; simpa [lst] using this
  subst h1
  refine ⟨rfl, fun i hi => ?_⟩
  have := congrArg (fun l => l[i]?) e
  simpa [lst, hi] using this
/-- a literal put in its place: A, x, B in order -/
theorem pw_mid {A B : List Int} {x : Int} (h : (A ++ B).Pairwise ahd) (hB : ∀ y ∈ B, ahd x y) (hA : ∀ y ∈ A, ahd y x) : (A ++ x :: B).Pairwise ahd := by
  rw [List.pairwise_append] at h ⊢
  refine ⟨h.1, List.pairwise_cons.2 ⟨hB, h.2.1⟩, fun a ha b hb => ?_⟩
  rcases List.mem_cons.1 hb with rfl | hb
  · exact hA a ha
  · exact h.2.2 a ha b hb
/-- what cmp.Compare of atoms and then of the literals says -/
def cfL (x y : Int) : Int := if atm x < atm y then -1 else if atm y < atm x then 1 else if y < x then -1 else if x < y then 1 else 0
theorem cfL_lt (x y : Int) : cfL x y < 0 ↔ ahd x y := by
  unfold cfL ahd
  repeat' split
  all_goals omega
end Go.Proofs.Ytnjidhoceacenaa
