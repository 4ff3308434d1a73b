/-
  Layer 6: apart: the walk.
-/
import Derived.Test.YtkflbhkcofmaoaaGreatNumS
import Derived.Test.YtkflbhkcofmaoaaGreatWO0
import Derived.Test.YtkflbhkcofmaoaaGreatWL6
import Derived.Test.YtkflbhkcofmaoaaGreatWQB
import Derived.Below
namespace Go.Proofs.YtkflbhkcofmaoaaGreat
open Go.RowKit
set_option linter.unusedVariables false
set_option linter.unusedSimpArgs false

/-- the sum of the first n -/
def rs (q : Nat → RatV) : Nat → Rat
  | 0 => 0
  | n + 1 => rs q n + (q n).val
theorem rs_div (q : Nat → RatV) : ∀ n, rs q n = Rat.divInt (lnum (lq q n)) ((lden (lq q n) : Nat) : Int)
  | 0 => by show (0 : Rat) = Rat.divInt 0 _; rw [Rat.zero_divInt]
  | n + 1 => by
    have hp := lden_lq_pos q n
    simp only [rs]
    rw [rs_div q n, lq_succ, lnum_append, lden_append]
    unfold RatV.val
    rw [Rat.divInt_add_divInt _ _ (by omega) (rd_ne _)]
    have e1 : lden [(rn (q n).s (q n).X (q n).Y, rd (q n).Y)] = rd (q n).Y := Nat.mul_one _
    have e2 : lnum [(rn (q n).s (q n).X (q n).Y, rd (q n).Y)] = rn (q n).s (q n).X (q n).Y := by
      show _ * ((1 : Nat) : Int) + 0 * _ = _
      simp
    rw [e1, e2, Int.natCast_mul]
theorem rs_low (q : Nat → RatV) (n : Nat) : Low (lnum (lq q n)) ((lden (lq q n) : Nat) : Int) (rs q n).num (rs q n).den := low_of (by have := lden_lq_pos q n; omega) (rs_div q n)
theorem rs_congr {q q' : Nat → RatV} : ∀ (n : Nat), (∀ i, i < n → q' i = q i) → rs q' n = rs q n
  | 0, _ => rfl
  | n + 1, h => by simp only [rs]; rw [rs_congr n fun i hi => h i (by omega), h n (by omega)]
theorem bulkV_congr {q q' : Nat → RatV} : ∀ (n : Nat), (∀ i, i < n → q' i = q i) → bulkV q' n = bulkV q n
  | 0, _ => rfl
  | n + 1, h => by simp only [bulkV]; rw [bulkV_congr n fun i hi => h i (by omega), h n (by omega)]
theorem bulkL_append : ∀ (A B : List Mo), bulkL (A ++ B) = bulkL A + bulkL B
  | [], B => by simp [bulkL]
  | p :: A, B => by simp only [List.cons_append, bulkL, bulkL_append A B]; omega
/-- the parts of the other variables -/
def oth (x : Int) (L : List Mo) : List Mo := L.filter fun p => !(p.1 == x)
/-- the parts of one variable -/
def mine (x : Int) (L : List Mo) : List Mo := L.filter fun p => p.1 == x
/-- what the loop of apart keeps -/
def AInv (w : World) (L : List Mo) (x : Int) (k : Nat) (vo vt : Value) (wr : World) : Prop :=
  ∃ (j : Nat) (q : Nat → RatV), j ≤ k ∧ wr.ownsRow w.heap.size 31 3 vo j (cellsV q j) ∧ wr.ownsRow w.heap.size 59 4 vt (oth x (L.take k)).length (cellsF (oth x (L.take k))) ∧ Below w.heap.size w wr ∧
    (∀ b, vo.ownBlock = some b → vt.ownBlock ≠ some b) ∧ (∀ i, i < j → (q i).ok wr ∧ (q i).low ∧ (∀ b, vo.ownBlock = some b → (q i).off b) ∧ (∀ b, vt.ownBlock = some b → (q i).off b)) ∧
    rs q j = co x (fo (L.take k)) ∧ bulkV q j ≤ bulkL (mine x (L.take k))
end Go.Proofs.YtkflbhkcofmaoaaGreat

namespace Go.Proofs.YtkflbhkcofmaoaaGreat
open Go.RowKit
set_option linter.unusedVariables false
set_option linter.unusedSimpArgs false

theorem AInv.below {w : World} {L : List Mo} {x : Int} {k : Nat} {vo vt : Value} {wr : World} (h : AInv w L x k vo vt wr) : Below w.heap.size w wr := by
  obtain ⟨j, q, _, _, _, hB, _⟩ := h
  exact hB

end Go.Proofs.YtkflbhkcofmaoaaGreat
