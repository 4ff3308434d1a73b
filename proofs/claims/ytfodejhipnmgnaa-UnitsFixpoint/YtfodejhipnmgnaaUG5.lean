/-
  units: how long the clauses of the store are that made gives; values kept.
-/
import Derived.Test.YtfodejhipnmgnaaUG4
import Derived.Test.YtfodejhipnmgnaaOpenF
namespace Go.Proofs.Ytfodejhipnmgnaa
open Go.RowKit
set_option linter.unusedVariables false
set_option linter.unusedSimpArgs false
theorem addL_lits {u : US} {f : Nat → Cla} {B : Nat} (h : ∀ m, (clU u m).lits.length ≤ B) : ∀ k, (∀ i, i < k → (f i).n ≤ B) → ∀ m, (clU (addL u f k) m).lits.length ≤ B
  | 0, _, m => h m
  | k + 1, hf, m => by
    have ih := addL_lits h k (fun i hi => hf i (by omega)) m
    show (clU (addG (addL u f k) (ofF (f k).n (f k).g)) m).lits.length ≤ B
    unfold addG
    split
    · unfold addF
      split
      · rw [add_cl]
        split
        · show (ofF (f k).n (f k).g).length ≤ B
          rw [ofF_length]; exact hf k (by omega)
        · exact ih
      · exact ih
    · exact ih
theorem made_lits {n cn : Nat} {f : Nat → Cla} {dn : Nat} {d : Nat → Int} {B : Nat} (hf : ∀ i, i < cn → (f i).n ≤ B) (m : Nat) : (clU (madeU n cn f dn d) m).lits.length ≤ B := by
  have h := addL_lits (u := us0 n) (f := f) (B := B) (fun m => by show (([] : List CL).getD m default).lits.length ≤ B; exact Nat.zero_le _) cn hf m
  have e : (madeU n cn f dn d).cl = (addL (us0 n) f cn).cl := by
    unfold madeU
    generalize addL (us0 n) f cn = u
    clear h
    induction dn with
    | zero => rfl
    | succ k ih => exact (decF_tr _ _).2.trans ih
  unfold clU at h ⊢
  rw [e]
  exact h
theorem mk_cell {w : World} {g : Nat} {l : List Mk} {t : TypeId} (h : w.heap[g]? = some (.cells (mkC l).toArray t (0, 0))) {j : Nat} (hj : j < l.length) : w.cell? ⟨g, j * 3, none⟩ = some (.int .i64 (l.getD j default).l) ∧ w.cell? ⟨g, j * 3 + 2, none⟩ = some (.int .i64 (l.getD j default).r) := by
  constructor
  · rw [cell_of_row w g _ _ _ _ h]; simp only [List.getElem?_toArray]; exact (mkC_at l j hj).1
  · rw [cell_of_row w g _ _ _ _ h]; simp only [List.getElem?_toArray]; exact (mkC_at l j hj).2.2
end Go.Proofs.Ytfodejhipnmgnaa
