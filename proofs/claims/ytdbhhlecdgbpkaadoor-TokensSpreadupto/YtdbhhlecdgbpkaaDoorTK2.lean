/-
  The seventeen signs, asked for by the program (strings.ContainsRune) and by the reference (a loop); symbol bytes.
-/
import Derived.Test.YtdbhhlecdgbpkaaDoorTK1
import Derived.BigQuiet
import Derived.Deep.QuietTactic
import Derived.Lib.IndexLaws
namespace Go.Proofs.YtdbhhlecdgbpkaaDoor
open Go.RowKit
set_option linter.unusedVariables false
set_option linter.unusedSimpArgs false

def sgS : ByteArray := ⟨#[126, 33, 64, 36, 37, 94, 38, 42, 95, 45, 43, 61, 60, 62, 46, 63, 47]⟩
theorem sgS_size : sgS.size = 17 := rfl
theorem sgS_byt : ∀ k, k < 17 → byt sgS k = sgL.getD k 0 := by
  intro k hk
  have h : ∀ k : Fin 17, byt sgS k.val = sgL.getD k.val 0 := by decide
  exact h ⟨k, hk⟩
theorem sgN_iff (c : Nat) : sgN c = true ↔ ∃ k, k < sgS.size ∧ byt sgS k = c := by
  unfold sgN
  rw [sgS_size, List.contains_iff_mem, List.mem_iff_getElem]
  constructor
  · rintro ⟨k, hk, e⟩
    have hk' : k < 17 := hk
    refine ⟨k, hk', ?_⟩
    rw [sgS_byt k hk', List.getD_eq_getElem?_getD, List.getElem?_eq_getElem hk]
    exact e
  · rintro ⟨k, hk, e⟩
    have hk' : k < sgL.length := hk
    refine ⟨k, hk', ?_⟩
    rw [sgS_byt k hk, List.getD_eq_getElem?_getD, List.getElem?_eq_getElem hk'] at e
    exact e
theorem sgS_low {k : Nat} (hk : k < 17) : byt sgS k < 128 := by
  have h : ∀ k : Fin 17, byt sgS k.val < 128 := by decide
  exact h ⟨k, hk⟩


end Go.Proofs.YtdbhhlecdgbpkaaDoor
