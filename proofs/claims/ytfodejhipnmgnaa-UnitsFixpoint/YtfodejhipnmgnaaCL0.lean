/-
  Clauses in memory: lists of literals, lists of such lists, truths.
-/
import Derived.Test.YtfodejhipnmgnaaProg
import Derived.WalkKit
import Derived.WalkSpells
import Derived.WalkLawsBesides
import Derived.CellFam
import Derived.BigQuiet
import Derived.Deep.OwnRows
import Derived.Deep.AppendLies
import Derived.Laws.OwnMore
import Derived.Laws.CopyOwn
namespace Go.Proofs.Ytfodejhipnmgnaa
open Go.RowKit
set_option linter.unusedVariables false
set_option linter.unusedSimpArgs false

theorem hide' {p : Prop} (h : p) : Hid p := h
theorem below_at {B : Nat} {w w' : World} (h : Below B w w') {p : Addr} {v : Value} (hp : p.block < B) (hc : w.cell? p = some v) : w'.cell? p = some v := by
  rw [h.cell hp]; exact hc
theorem below_cell {w w' : World} (h : Below w.heap.size w w') {p : Addr} {v : Value} (hc : w.cell? p = some v) : w'.cell? p = some v :=
  below_at h (World.block_lt_of_cell? w p hc) hc
theorem below_alloc {w : World} (o : Obj) : Below w.heap.size w (w.alloc o) := (Below.refl _ _).alloc (Nat.le_refl _) _

theorem results_tt {fn : Func} {p u : Tmp} (h : fn.results = #[.tmp p, .tmp u]) (tmps : Array Value) (P : Program) (w : World) :
    (results fn tmps).run P w = .ok (.tuple #[tmps.getD p undef, tmps.getD u undef]) w := by
  simp only [results, h]
  simp
/-- the n cells of a slice hold the integers g 0, g 1, .. -/
def LitsAt (w : World) (a : Option Addr) (n : Nat) (g : Nat → Int) : Prop :=
  n ≤ 9223372036854775807 ∧ (∀ i, i < n → -9223372036854775808 ≤ g i ∧ g i ≤ 9223372036854775807) ∧ (0 < n → ∃ b off, a = some ⟨b, off, none⟩ ∧ ∀ i, i < n → w.cell? ⟨b, off + i, none⟩ = some (.int .i64 (g i)))
theorem LitsAt.later {w w' : World} {a : Option Addr} {n : Nat} {g : Nat → Int} (h : LitsAt w a n g) (hb : Below w.heap.size w w') : LitsAt w' a n g :=
  ⟨h.1, h.2.1, fun hn => by obtain ⟨b, off, e, hc⟩ := h.2.2 hn; exact ⟨b, off, e, fun i hi => below_cell hb (hc i hi)⟩⟩
/-- truths -/
def TruthsAt (w : World) (a : Option Addr) (n : Nat) (g : Nat → Bool) : Prop :=
  n ≤ 9223372036854775807 ∧ (0 < n → ∃ b off, a = some ⟨b, off, none⟩ ∧ ∀ i, i < n → w.cell? ⟨b, off + i, none⟩ = some (.bool (g i)))
theorem TruthsAt.later {w w' : World} {a : Option Addr} {n : Nat} {g : Nat → Bool} (h : TruthsAt w a n g) (hb : Below w.heap.size w w') : TruthsAt w' a n g :=
  ⟨h.1, fun hn => by obtain ⟨b, off, e, hc⟩ := h.2 hn; exact ⟨b, off, e, fun i hi => below_cell hb (hc i hi)⟩⟩
/-- a clause as a slice: where it lies, how many literals, its room, its literals -/
structure Cla where
  a : Option Addr
  n : Nat
  c : Nat
  g : Nat → Int
instance : Inhabited Cla := ⟨⟨none, 0, 0, fun _ => 0⟩⟩
/-- a list of clauses -/
def ClasAt (w : World) (a : Option Addr) (n : Nat) (f : Nat → Cla) : Prop :=
  n ≤ 9223372036854775807 ∧ (∀ i, i < n → LitsAt w (f i).a (f i).n (f i).g) ∧ (0 < n → ∃ b off, a = some ⟨b, off, none⟩ ∧ ∀ i, i < n → w.cell? ⟨b, off + i, none⟩ = some (.slice (f i).a (f i).n (f i).c))
theorem ClasAt.later {w w' : World} {a : Option Addr} {n : Nat} {f : Nat → Cla} (h : ClasAt w a n f) (hb : Below w.heap.size w w') : ClasAt w' a n f :=
  ⟨h.1, fun i hi => (h.2.1 i hi).later hb, fun hn => by obtain ⟨b, off, e, hc⟩ := h.2.2 hn; exact ⟨b, off, e, fun i hi => below_cell hb (hc i hi)⟩⟩

/-- the first place that has it, or -1 -/
def fstN (p : Nat → Bool) : Nat → Int
  | 0 => -1
  | n + 1 => if fstN p n = -1 then (if p n then (n : Int) else -1) else fstN p n
theorem fstN_none {p : Nat → Bool} : ∀ {n : Nat}, (∀ i, i < n → p i = false) → fstN p n = -1
  | 0, _ => rfl
  | n + 1, h => by
    have h1 := fstN_none (n := n) fun i hi => h i (by omega)
    have h2 := h n (by omega)
    simp [fstN, h1, h2]
theorem fstN_at {p : Nat → Bool} {k : Nat} (hk : p k = true) (hb : ∀ i, i < k → p i = false) : ∀ {n : Nat}, k < n → fstN p n = k
  | n + 1, h => by
    by_cases e : k = n
    · subst e
      simp [fstN, fstN_none hb, hk]
    · have h1 := fstN_at hk hb (n := n) (by omega)
      have h2 : ¬ ((k : Int) = -1) := by omega
      simp [fstN, h1, h2]
/-- the first n of a list have it all -/
def allN (p : Int → Bool) (g : Nat → Int) : Nat → Bool
  | 0 => true
  | n + 1 => allN p g n && p (g n)
theorem allN_true {p : Int → Bool} {g : Nat → Int} : ∀ {n : Nat}, allN p g n = true ↔ ∀ i, i < n → p (g i) = true
  | 0 => by simp [allN]
  | n + 1 => by
    simp only [allN, Bool.and_eq_true, allN_true (n := n)]
    constructor
    · rintro ⟨h1, h2⟩ i hi
      by_cases e : i = n
      · rw [e]; exact h2
      · exact h1 i (by omega)
    · intro h
      exact ⟨fun i hi => h i (by omega), h n (by omega)⟩
theorem allN_false {p : Int → Bool} {g : Nat → Int} {n k : Nat} (hk : k < n) (h : p (g k) = false) : allN p g n = false := by
  cases e : allN p g n with
  | false => rfl
  | true => rw [allN_true.1 e k hk] at h; exact h
end Go.Proofs.Ytfodejhipnmgnaa
