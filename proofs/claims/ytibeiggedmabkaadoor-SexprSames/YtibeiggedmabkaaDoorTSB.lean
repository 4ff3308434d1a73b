/-
  The law's same and awake.
-/
import Derived.Test.YtibeiggedmabkaaDoorTSA
namespace Go.Proofs.YtibeiggedmabkaaDoor
open Go.RowKit
set_option linter.unusedVariables false
set_option linter.unusedSimpArgs false

theorem tokCells_at : ∀ (L : List Tok) (k j : Nat) (hk : k < L.length), j < 6 → (tokCells L)[k * 6 + j]? = (L[k]).cells[j]?
  | [], k, j, hk, _ => absurd hk (by simp)
  | t :: l, 0, j, hk, hj => by
    have e : tokCells (t :: l) = t.cells ++ tokCells l := by simp [tokCells]
    rw [e, Nat.zero_mul, Nat.zero_add, List.getElem?_append_left (by simp [Tok.cells]; omega)]
    rfl
  | t :: l, k + 1, j, hk, hj => by
    have e : tokCells (t :: l) = t.cells ++ tokCells l := by simp [tokCells]
    have e6 : t.cells.length = 6 := rfl
    rw [e, List.getElem?_append_right (by rw [e6]; omega), e6, show (k + 1) * 6 + j - 6 = k * 6 + j by omega, tokCells_at l k j (by simpa using hk) hj]
    rfl
theorem own_tok {w : World} {base g n : Nat} {cap : Nat} {L : List Tok} (h : w.ownsRow base 32 6 (.slice (some ⟨g, 0, none⟩) n cap) n (tokCells L)) (k j : Nat) (hk : k < L.length) (hj : j < 6) : w.cell? ⟨g, k * 6 + j, none⟩ = (L[k]).cells[j]? := by
  obtain ⟨u, hu⟩ : ∃ u, (L[k]).cells[j]? = some u := by
    have : j < (L[k]).cells.length := hj
    exact ⟨_, List.getElem?_eq_getElem this⟩
  have hc := h.cells (g := g) rfl (k * 6 + j) u (by rw [tokCells_at L k j hk hj]; exact hu)
  have e : (⟨g, 0, none⟩ : Addr).add (k * 6 + j) = ⟨g, k * 6 + j, none⟩ := by
    unfold Addr.add
    split
    · simp_all
    · simp
  rw [e] at hc
  rw [hu]
  exact hc
end Go.Proofs.YtibeiggedmabkaaDoor
