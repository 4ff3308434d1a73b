/-
  How long a normal form is, and a form so many times.
-/
import Derived.Test.YtkflbhkcofmaoaaGreatWN9
import Derived.Test.YtkflbhkcofmaoaaGreatWQN
namespace Go.Proofs.YtkflbhkcofmaoaaGreat
open Go.RowKit
set_option linter.unusedVariables false
set_option linter.unusedSimpArgs false

/-- how long the numbers of a form in memory are together, one by one -/
def bulkL : List Mo → Nat
  | [] => 0
  | p :: L => p.2.n + p.2.m + 2 + bulkL L
theorem norm_sz {w : World} {q : RatV} (hq : q.ok w) : ln (am q.val.num) ≤ q.n ∧ ln q.val.den ≤ q.m + 1 := low_ln hq.1.1 hq.2.2.2.1.1 q.val_low
theorem wts_bulk {w : World} : ∀ (L : List Mo), (∀ p ∈ L, p.2.ok w) → wts (fo L) ≤ bulkL L
  | [], _ => Nat.le_refl _
  | p :: L, h => by
    have h1 := wts_bulk L fun q hq => h q (List.mem_cons_of_mem _ hq)
    obtain ⟨h2, h3⟩ := norm_sz (h p List.mem_cons_self)
    simp only [fo_cons, wts, bulkL, wt]
    omega
theorem co_scale (x : Int) (c : Rat) : ∀ (l : Fo), co x (fmap (fun r => c * r) l) = c * co x l
  | [] => by simp [fmap, co]
  | p :: l => by
    show (if p.1 = x then c * p.2 else 0) + co x (fmap (fun r => c * r) l) = _
    rw [co_scale x c l]
    simp only [co]
    split <;> grind
end Go.Proofs.YtkflbhkcofmaoaaGreat

namespace Go.Proofs.YtkflbhkcofmaoaaGreat
set_option linter.unusedVariables false

/-- how long a product is -/
theorem mul_wt {w w' : World} {C q : RatV} (hC : C.ok w) (hq : q.ok w') : wt (C.val * q.val) ≤ C.n + C.m + q.n + q.m + 3 := by
  have h := (low_mul C q).le
  have h1 := lt_prod (Nat.lt_of_le_of_lt (rn_am C.s C.X C.Y) hC.1.1) (Nat.lt_of_le_of_lt (rn_am q.s q.X q.Y) hq.1.1)
  have h2 : am (((rd C.Y : Nat) : Int) * ((rd q.Y : Nat) : Int)) < BB ^ ((C.m + 1) + (q.m + 1)) := lt_prod (by show rd _ < _; exact rd_lt hC.2.2.2.1.1) (by show rd _ < _; exact rd_lt hq.2.2.2.1.1)
  have k1 := ln_le_of_lt (Nat.lt_of_le_of_lt h.1 h1)
  have k2 := ln_le_of_lt (Nat.lt_of_le_of_lt h.2 h2)
  unfold wt
  omega
theorem bulkL_at : ∀ (L : List Mo) (p : Mo), p ∈ L → p.2.n + p.2.m + 2 ≤ bulkL L
  | [], p, h => absurd h (by simp)
  | q :: L, p, h => by
    simp only [bulkL]
    rcases List.mem_cons.1 h with rfl | h
    · omega
    · have := bulkL_at L p h
      omega
end Go.Proofs.YtkflbhkcofmaoaaGreat
