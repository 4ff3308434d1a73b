/-
  From what a law's row hands over (clauses, lists of clauses, truths that came in) to the walks' words.
-/
import Derived.Test.YtfodejhipnmgnaaTKO
import Derived.Test.YtfodejhipnmgnaaCL0
import Derived.Deep.Matrix
import Derived.Deep.Grids
import Derived.Sort.Row
namespace Go.Proofs.Ytfodejhipnmgnaa
open Go.ChangeShapes Go.WideShapes Go.ChangeAt Go.RowKit
set_option linter.unusedVariables false
set_option linter.unusedSimpArgs false
theorem bulk_litsC {H : Type} : ∀ (l : List Int), l.length ≤ Rows.uptoBulkAll (lits (H := H) .i64 l)
  | [] => by simp [lits, Rows.uptoBulkAll]
  | z :: r => by
    have ih := bulk_litsC (H := H) r
    simp only [lits, List.map_cons, Rows.uptoBulkAll, Rows.uptoBulk, List.length_cons] at ih ⊢
    omega
theorem cells_intC : Try.prog.cellsOf 3 = 1 := by kernel_rfl
theorem cells_ClauseC : Try.prog.cellsOf 41 = 1 := by kernel_rfl
theorem cells_boolC : Try.prog.cellsOf 4 = 1 := by kernel_rfl
set_option maxRecDepth 30000 in
theorem open_Truths {H : Type} {enc : TypeId × Value → H} {W : World} {a : Option Addr} {len cap : Nat} {d : DataW H} {p : List MemPlace}
    (h : DataW.Trod enc Try.prog W 0 (fun _ => true) true 56 (.slice a len cap) d p) :
    ∃ g, TruthsAt W a len g := by
  obtain ⟨fuel, hf⟩ := h
  rcases Go.Deep.open_bools Try.underlying56 Try.underlying4 cells_boolC hf with ⟨hcs, hx⟩ | ⟨x, l, c, B, hcs, _, hl, hm, hx, hcell⟩
  · simp [Value.cells] at hcs
    obtain ⟨rfl, rfl, rfl⟩ := hcs
    exact ⟨fun _ => false, ⟨by omega, fun h => absurd h (by omega)⟩⟩
  · simp [Value.cells] at hcs
    obtain ⟨rfl, rfl, rfl⟩ := hcs
    unfold maxLen at hm
    refine ⟨B, ⟨by omega, fun hn => ?_⟩⟩
    obtain ⟨b, off, spot⟩ := x
    have hspot : spot = none := by simpa [Addr.add] using World.cell?_spot (hcell 0 (by omega))
    subst hspot
    refine ⟨b, off, rfl, fun i hi => ?_⟩
    have h1 := hcell i (by omega)
    have ea : (Addr.mk b off none).add i = ⟨b, off + i, none⟩ := by unfold Addr.add; split <;> simp_all
    rw [ea] at h1
    exact h1
end Go.Proofs.Ytfodejhipnmgnaa
