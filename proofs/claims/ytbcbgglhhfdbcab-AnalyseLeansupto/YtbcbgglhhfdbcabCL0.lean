/-
  Clauses in memory: lists of literals, lists of such lists, truths.
-/
import Derived.Test.YtbcbgglhhfdbcabProg
import Derived.WalkKit
import Derived.WalkSpells
import Derived.WalkLawsBesides
import Derived.CellFam
import Derived.BigQuiet
import Derived.Deep.OwnRows
import Derived.Deep.AppendLies
import Derived.Laws.OwnMore
import Derived.Laws.CopyOwn
namespace Go.Proofs.Ytbcbgglhhfdbcab
open Go.RowKit
set_option linter.unusedVariables false
set_option linter.unusedSimpArgs false

theorem hide' {p : Prop} (h : p) : Hid p := h
theorem below_at {B : Nat} {w w' : World} (h : Below B w w') {p : Addr} {v : Value} (hp : p.block < B) (hc : w.cell? p = some v) : w'.cell? p = some v := by
  rw [h.cell hp]; exact hc
theorem below_cell {w w' : World} (h : Below w.heap.size w w') {p : Addr} {v : Value} (hc : w.cell? p = some v) : w'.cell? p = some v :=
  below_at h (World.block_lt_of_cell? w p hc) hc
theorem below_alloc {w : World} (o : Obj) : Below w.heap.size w (w.alloc o) := (Below.refl _ _).alloc (Nat.le_refl _) _

theorem results_tt {fn : Func} {p u : Tmp} (h : fn.results = #[.tmp p, .tmp u]) (tmps : Array Value) (P : Program) (w : World) :
    (results fn tmps).run P w = .ok (.tuple #[tmps.getD p undef, tmps.getD u undef]) w := by
  simp only [results, h]
  simp
theorem results_ttt {fn : Func} {p u q : Tmp} (h : fn.results = #[.tmp p, .tmp u, .tmp q]) (tmps : Array Value) (P : Program) (w : World) :
    (results fn tmps).run P w = .ok (.tuple #[tmps.getD p undef, tmps.getD u undef, tmps.getD q undef]) w := by
  simp only [results, h]
  simp
/-- the n cells of a slice hold the integers g 0, g 1, .. -/
def LitsAt (w : World) (a : Option Addr) (n : Nat) (g : Nat → Int) : Prop :=
  n ≤ 9223372036854775807 ∧ (∀ i, i < n → -9223372036854775808 ≤ g i ∧ g i ≤ 9223372036854775807) ∧ (0 < n → ∃ b off, a = some ⟨b, off, none⟩ ∧ ∀ i, i < n → w.cell? ⟨b, off + i, none⟩ = some (.int .i64 (g i)))
theorem LitsAt.later {w w' : World} {a : Option Addr} {n : Nat} {g : Nat → Int} (h : LitsAt w a n g) (hb : Below w.heap.size w w') : LitsAt w' a n g :=
  ⟨h.1, h.2.1, fun hn => by obtain ⟨b, off, e, hc⟩ := h.2.2 hn; exact ⟨b, off, e, fun i hi => below_cell hb (hc i hi)⟩⟩
/-- truths -/
def TruthsAt (w : World) (a : Option Addr) (n : Nat) (g : Nat → Bool) : Prop :=
  n ≤ 9223372036854775807 ∧ (0 < n → ∃ b off, a = some ⟨b, off, none⟩ ∧ ∀ i, i < n → w.cell? ⟨b, off + i, none⟩ = some (.bool (g i)))
theorem TruthsAt.later {w w' : World} {a : Option Addr} {n : Nat} {g : Nat → Bool} (h : TruthsAt w a n g) (hb : Below w.heap.size w w') : TruthsAt w' a n g :=
  ⟨h.1, fun hn => by obtain ⟨b, off, e, hc⟩ := h.2 hn; exact ⟨b, off, e, fun i hi => below_cell hb (hc i hi)⟩⟩
/-- a clause as a slice: where it lies, how many literals, its room, its literals -/
structure Cla where
  a : Option Addr
  n : Nat
  c : Nat
  g : Nat → Int
instance : Inhabited Cla := ⟨⟨none, 0, 0, fun _ => 0⟩⟩
/-- a list of clauses -/
def ClasAt (w : World) (a : Option Addr) (n : Nat) (f : Nat → Cla) : Prop :=
  n ≤ 9223372036854775807 ∧ (∀ i, i < n → LitsAt w (f i).a (f i).n (f i).g) ∧ (0 < n → ∃ b off, a = some ⟨b, off, none⟩ ∧ ∀ i, i < n → w.cell? ⟨b, off + i, none⟩ = some (.slice (f i).a (f i).n (f i).c))
theorem ClasAt.later {w w' : World} {a : Option Addr} {n : Nat} {f : Nat → Cla} (h : ClasAt w a n f) (hb : Below w.heap.size w w') : ClasAt w' a n f :=
  ⟨h.1, fun i hi => (h.2.1 i hi).later hb, fun hn => by obtain ⟨b, off, e, hc⟩ := h.2.2 hn; exact ⟨b, off, e, fun i hi => below_cell hb (hc i hi)⟩⟩

/-- is it a literal? -/
def isLit (x : Int) : Bool := decide (x ≠ 0) && decide (x ≠ -9223372036854775808)
/-- its atom -/
def atm (x : Int) : Int := if x < 0 then -x else x
/-- the first place that has it, or -1 -/
def fstN (p : Nat → Bool) : Nat → Int
  | 0 => -1
  | n + 1 => if fstN p n = -1 then (if p n then (n : Int) else -1) else fstN p n
theorem fstN_none {p : Nat → Bool} : ∀ {n : Nat}, (∀ i, i < n → p i = false) → fstN p n = -1
  | 0, _ => rfl
  | n + 1, h => by
    have h1 := fstN_none (n := n) fun i hi => h i (by omega)
    have h2 := h n (by omega)
    simp [fstN, h1, h2]
theorem fstN_at {p : Nat → Bool} {k : Nat} (hk : p k = true) (hb : ∀ i, i < k → p i = false) : ∀ {n : Nat}, k < n → fstN p n = k
  | n + 1, h => by
    by_cases e : k = n
    · subst e
      simp [fstN, fstN_none hb, hk]
    · have h1 := fstN_at hk hb (n := n) (by omega)
      have h2 : ¬ ((k : Int) = -1) := by omega
      simp [fstN, h1, h2]
/-- the first n of a list have it all -/
def allN (p : Int → Bool) (g : Nat → Int) : Nat → Bool
  | 0 => true
  | n + 1 => allN p g n && p (g n)
theorem allN_true {p : Int → Bool} {g : Nat → Int} : ∀ {n : Nat}, allN p g n = true ↔ ∀ i, i < n → p (g i) = true
  | 0 => by simp [allN]
  | n + 1 => by
    simp only [allN, Bool.and_eq_true, allN_true (n := n)]
    constructor
    · rintro ⟨h1, h2⟩ i hi
      by_cases e : i = n
      · rw [e]; exact h2
      · exact h1 i (by omega)
    · intro h
      exact ⟨fun i hi => h i (by omega), h n (by omega)⟩
theorem allN_false {p : Int → Bool} {g : Nat → Int} {n k : Nat} (hk : k < n) (h : p (g k) = false) : allN p g n = false := by
  cases e : allN p g n with
  | false => rfl
  | true => rw [allN_true.1 e k hk] at h; exact h
/-- a literal's truth -/
def litT (m : Nat) (v : Nat → Bool) (x : Int) : Bool := (decide (atm x < m) && v (atm x).toNat) == decide (x > 0)
theorem fstN_any {p : Int → Bool} {g : Nat → Int} {n : Nat} : decide (fstN (fun i => p (g i)) n ≥ 0) = !allN (fun x => !p x) g n := by
  by_cases h : ∃ k, k < n ∧ p (g k) = true
  · obtain ⟨k, hk, e⟩ := h
    have hf : allN (fun x => !p x) g n = false := allN_false hk (by simp [e])
    rw [hf]
    have : ∃ m, m ≤ k ∧ p (g m) = true ∧ ∀ i, i < m → p (g i) = false := by
      clear hf hk
      induction k using Nat.strongRecOn with
      | ind k ih =>
        by_cases hx : ∃ i, i < k ∧ p (g i) = true
        · obtain ⟨i, hi, ei⟩ := hx
          obtain ⟨m, hm, r⟩ := ih i hi ei
          exact ⟨m, by omega, r⟩
        · exact ⟨k, Nat.le_refl _, e, fun i hi => by
            cases hp : p (g i) with
            | false => rfl
            | true => exact absurd ⟨i, hi, hp⟩ hx⟩
    obtain ⟨m, hm, e1, e2⟩ := this
    rw [fstN_at (p := fun i => p (g i)) e1 e2 (by omega)]
    simp
  · have hn : ∀ i, i < n → p (g i) = false := fun i hi => by
      cases hp : p (g i) with
      | false => rfl
      | true => exact absurd ⟨i, hi, hp⟩ h
    rw [fstN_none hn, allN_true.2 (fun i hi => by simp [hn i hi])]
    decide
theorem allN_congr {p q : Int → Bool} {g : Nat → Int} {n : Nat} (h : ∀ i, i < n → p (g i) = q (g i)) : allN p g n = allN q g n := by
  induction n with
  | zero => rfl
  | succ n ih => simp only [allN]; rw [ih fun i hi => h i (by omega), h n (by omega)]
end Go.Proofs.Ytbcbgglhhfdbcab
