/-
  analyse: what First, Less and Final do with places (pure).
-/
import Derived.Test.YtbcbgglhhfdbcabANB
namespace Go.Proofs.Ytbcbgglhhfdbcab
open Go.RowKit
set_option linter.unusedVariables false
set_option linter.unusedSimpArgs false
/-- the greatest below n -/
def top (S : Nat → Bool) : Nat → Option Nat
  | 0 => none
  | n + 1 => if S n then some n else top S n
theorem top_some {S : Nat → Bool} : ∀ {n q : Nat}, top S n = some q → q < n ∧ S q = true ∧ ∀ z, q < z → z < n → S z = false
  | n + 1, q, h => by
    unfold top at h
    by_cases e : S n = true
    · rw [if_pos e] at h
      injection h with h
      subst h
      exact ⟨by omega, e, fun z h1 h2 => by omega⟩
    · rw [if_neg e] at h
      obtain ⟨h1, h2, h3⟩ := top_some h
      refine ⟨by omega, h2, fun z h4 h5 => ?_⟩
      by_cases q2 : z = n
      · rw [q2]; exact Bool.eq_false_iff.2 e
      · exact h3 z h4 (by omega)
theorem top_none {S : Nat → Bool} : ∀ {n : Nat}, top S n = none → ∀ z, z < n → S z = false
  | 0, _, z, h => by omega
  | n + 1, h, z, hz => by
    unfold top at h
    by_cases e : S n = true
    · rw [if_pos e] at h; cases h
    · rw [if_neg e] at h
      by_cases q2 : z = n
      · rw [q2]; exact Bool.eq_false_iff.2 e
      · exact top_none h z (by omega)
theorem top_of {S : Nat → Bool} {n q : Nat} (h1 : q < n) (h2 : S q = true) (h3 : ∀ z, q < z → z < n → S z = false) : top S n = some q := by
  cases h : top S n with
  | none => have := top_none h q h1; rw [h2] at this; cases this
  | some q' =>
    obtain ⟨a, b, c⟩ := top_some h
    rcases Nat.lt_trichotomy q q' with e | e | e
    · have := h3 q' e a; rw [b] at this; cases this
    · rw [e]
    · have := c q e h1; rw [h2] at this; cases this
theorem top_none_of {S : Nat → Bool} {n : Nat} (h : ∀ z, z < n → S z = false) : top S n = none := by
  cases e : top S n with
  | none => rfl
  | some q => obtain ⟨a, b, _⟩ := top_some e; rw [h q a] at b; cases b
def uni (S T : Nat → Bool) : Nat → Bool := fun z => S z || T z
section
variable (lev : Nat → Int) (cau : Nat → Nat → Bool) (rsn : Nat → Int)
/-- resolved up to the first point -/
def uip (p : Nat) (S : Nat → Bool) (ch : List Int) : Nat × (Nat → Bool) × List Int :=
  match top S p with
  | none => (p, S, ch)
  | some q => if lev q = lev p then
      match h2 : top (uni S (cau p)) p with
      | none => (p, S, ch)
      | some q' => uip q' (uni S (cau p)) (ch ++ [rsn p])
    else (p, S, ch)
termination_by p
decreasing_by exact (top_some h2).1
theorem uip_none {p : Nat} {S : Nat → Bool} (ch : List Int) (h : top S p = none) : uip lev cau rsn p S ch = (p, S, ch) := by rw [uip, h]
theorem uip_stop {p q : Nat} {S : Nat → Bool} (ch : List Int) (h : top S p = some q) (h1 : lev q ≠ lev p) : uip lev cau rsn p S ch = (p, S, ch) := by rw [uip, h]; simp only; rw [if_neg h1]
theorem uip_go {p q q' : Nat} {S : Nat → Bool} (ch : List Int) (h : top S p = some q) (h1 : lev q = lev p) (h2 : top (uni S (cau p)) p = some q') : uip lev cau rsn p S ch = uip lev cau rsn q' (uni S (cau p)) (ch ++ [rsn p]) := by
  rw [uip, h]
  simp only
  rw [if_pos h1]
  split
  · rename_i h3; rw [h2] at h3; cases h3
  · rename_i q2 h3; rw [h2] at h3; injection h3 with h3; subst h3; rfl
/-- the reasons that what is of level 0 goes with -/
def clF : Nat → (Nat → Bool) → List Int → List Int
  | 0, _, ch => ch
  | n + 1, S, ch => if S n && decide (lev n = 0) then clF n (uni S (cau n)) (ch ++ [rsn n]) else clF n S ch
/-- the places of other levels, falling -/
def fallN : Nat → (Nat → Bool) → List Nat
  | 0, _ => []
  | n + 1, S => if S n && decide (lev n ≠ 0) then n :: fallN n S else fallN n S
theorem clF_skip {S : Nat → Bool} (ch : List Int) : ∀ {n m : Nat}, m ≤ n → (∀ z, m ≤ z → z < n → S z = false) → clF lev cau rsn n S ch = clF lev cau rsn m S ch
  | 0, m, h, _ => by rw [show m = 0 by omega]
  | n + 1, m, h, hz => by
    by_cases e : m = n + 1
    · rw [e]
    · have e9 : clF lev cau rsn (n + 1) S ch = if S n && decide (lev n = 0) then clF lev cau rsn n (uni S (cau n)) (ch ++ [rsn n]) else clF lev cau rsn n S ch := rfl
      rw [e9, hz n (by omega) (by omega)]
      rw [show (false && decide (lev n = 0)) = false from rfl, if_neg (by simp)]
      exact clF_skip ch (by omega) fun z h1 h2 => hz z h1 (by omega)
theorem fallN_skip {S : Nat → Bool} : ∀ {n m : Nat}, m ≤ n → (∀ z, m ≤ z → z < n → S z = false) → fallN lev n S = fallN lev m S
  | 0, m, h, _ => by rw [show m = 0 by omega]
  | n + 1, m, h, hz => by
    by_cases e : m = n + 1
    · rw [e]
    · have e9 : fallN lev (n + 1) S = if S n && decide (lev n ≠ 0) then n :: fallN lev n S else fallN lev n S := rfl
      rw [e9, hz n (by omega) (by omega)]
      rw [show (false && decide (lev n ≠ 0)) = false from rfl, if_neg (by simp)]
      exact fallN_skip (by omega) fun z h1 h2 => hz z h1 (by omega)
theorem fallN_congr {S T : Nat → Bool} : ∀ {n : Nat}, (∀ z, z < n → lev z ≠ 0 → S z = T z) → fallN lev n S = fallN lev n T
  | 0, _ => rfl
  | n + 1, h => by
    unfold fallN
    have ih := fallN_congr (n := n) fun z h1 h2 => h z (by omega) h2
    by_cases e : lev n = 0
    · rw [show decide (lev n ≠ 0) = false from by simp [e], Bool.and_false, Bool.and_false, if_neg (by simp), if_neg (by simp), ih]
    · rw [h n (by omega) e, ih]
theorem cl_zero {S : Nat → Bool} {n q : Nat} (ch : List Int) (h : top S n = some q) (h0 : lev q = 0) : clF lev cau rsn n S ch = clF lev cau rsn q (uni S (cau q)) (ch ++ [rsn q]) := by
  obtain ⟨h1, h2, h3⟩ := top_some h
  rw [clF_skip lev cau rsn ch (m := q + 1) (by omega) fun z a b => h3 z (by omega) b]
  show (if _ then _ else _) = _
  rw [h2, h0]
  simp
theorem cl_pos {S : Nat → Bool} {n q : Nat} (ch : List Int) (h : top S n = some q) (h0 : lev q ≠ 0) : clF lev cau rsn n S ch = clF lev cau rsn q S ch := by
  obtain ⟨h1, h2, h3⟩ := top_some h
  rw [clF_skip lev cau rsn ch (m := q + 1) (by omega) fun z a b => h3 z (by omega) b]
  show (if _ then _ else _) = _
  rw [h2]
  simp [h0]
theorem cl_none {S : Nat → Bool} {n : Nat} (ch : List Int) (h : top S n = none) : clF lev cau rsn n S ch = ch := by
  rw [clF_skip lev cau rsn ch (m := 0) (Nat.zero_le _) fun z _ b => top_none h z b]; rfl
theorem fall_pos {S : Nat → Bool} {n q : Nat} (h : top S n = some q) (h0 : lev q ≠ 0) : fallN lev n S = q :: fallN lev q S := by
  obtain ⟨h1, h2, h3⟩ := top_some h
  rw [fallN_skip lev (m := q + 1) (by omega) fun z a b => h3 z (by omega) b]
  show (if _ then _ else _) = _
  rw [h2]
  simp [h0]
theorem fall_zero {S T : Nat → Bool} {n q : Nat} (h : top S n = some q) (h0 : lev q = 0) (hT : ∀ z, z < q → T z = true → lev z = 0) : fallN lev n S = fallN lev q (uni S T) := by
  obtain ⟨h1, h2, h3⟩ := top_some h
  rw [fallN_skip lev (m := q + 1) (by omega) fun z a b => h3 z (by omega) b]
  have e1 : fallN lev (q + 1) S = fallN lev q S := by
    show (if _ then _ else _) = _
    rw [h2]; simp [h0]
  rw [e1]
  refine fallN_congr lev fun z a b => ?_
  unfold uni
  cases hz : T z with
  | true => exact absurd (hT z a hz) b
  | false => simp
theorem fall_none {S : Nat → Bool} {n : Nat} (h : top S n = none) : fallN lev n S = [] := by
  rw [fallN_skip lev (m := 0) (Nat.zero_le _) fun z _ b => top_none h z b]; rfl
theorem fall_mem {S : Nat → Bool} : ∀ {n z : Nat}, z ∈ fallN lev n S ↔ z < n ∧ S z = true ∧ lev z ≠ 0
  | 0, z => by simp [fallN]
  | n + 1, z => by
    unfold fallN
    have ih := fall_mem (S := S) (n := n) (z := z)
    by_cases e : (S n && decide (lev n ≠ 0)) = true
    · rw [if_pos e, List.mem_cons, ih]
      simp only [Bool.and_eq_true, decide_eq_true_eq] at e
      constructor
      · rintro (rfl | h)
        · exact ⟨by omega, e.1, e.2⟩
        · exact ⟨by omega, h.2⟩
      · intro h
        by_cases q : z = n
        · exact Or.inl q
        · exact Or.inr ⟨by omega, h.2⟩
    · rw [if_neg e, ih]
      simp only [Bool.and_eq_true, decide_eq_true_eq] at e
      constructor
      · intro h; exact ⟨by omega, h.2⟩
      · intro h
        by_cases q : z = n
        · subst q; exact absurd h.2 e
        · exact ⟨by omega, h.2⟩
theorem fall_len {S : Nat → Bool} : ∀ {n : Nat}, (fallN lev n S).length ≤ n
  | 0 => Nat.le_refl _
  | n + 1 => by
    unfold fallN
    have := fall_len (S := S) (n := n)
    split
    · simp; omega
    · omega
end
/-- of a trail -/
def levF (M : List Mk) (p : Nat) : Int := (M.getD p default).v
def litF (M : List Mk) (p : Nat) : Int := (M.getD p default).l
def rsnF (M : List Mk) (p : Nat) : Int := (M.getD p default).r
def inL (l : List Int) : Nat → Bool := fun z => l.contains (z : Int)
theorem inL_iff {l : List Int} {z : Nat} : inL l z = true ↔ (z : Int) ∈ l := by unfold inL; simp
end Go.Proofs.Ytbcbgglhhfdbcab
