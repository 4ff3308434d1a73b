/-
  From what a law's row hands over (a list of strings that came in) to the walks' words.
-/
import Derived.Test.YtibeiggedmabkaaDoorTKO
import Derived.Test.YtibeiggedmabkaaDoorSZA
import Derived.Deep.Strs
namespace Go.Proofs.YtibeiggedmabkaaDoor
open Go.ChangeShapes Go.WideShapes Go.ChangeAt Go.RowKit
set_option linter.unusedVariables false
set_option linter.unusedSimpArgs false
theorem bulkAll_app {H : Type} : ∀ (a b : List (DataW H)), Rows.uptoBulkAll (a ++ b) = Rows.uptoBulkAll a + Rows.uptoBulkAll b
  | [], b => by simp [Rows.uptoBulkAll]
  | x :: a, b => by simp only [List.cons_append, Rows.uptoBulkAll]; rw [bulkAll_app a b]; omega
theorem bulk_strs {H : Type} (g : Nat → ByteArray) : ∀ n, tots g n + n ≤ Rows.uptoBulkAll ((List.range n).map fun i => (DataW.lit (.string (g i).data.toList) : DataW H))
  | 0 => by simp [tots]
  | n + 1 => by
    have ih := bulk_strs (H := H) g n
    rw [List.range_succ, List.map_append, bulkAll_app]
    have hz : (g n).size = (g n).data.toList.length := by rw [Array.length_toList]; rfl
    simp only [tots, List.map, Rows.uptoBulkAll, Rows.uptoBulk]
    omega
theorem cells_string : Tryd.prog.cellsOf 9 = 1 := by kernel_rfl
set_option maxRecDepth 30000 in
theorem open_Strs {H : Type} {enc : TypeId × Value → H} {W : World} {a : Option Addr} {len cap : Nat} {d : DataW H} {p : List MemPlace}
    (h : DataW.Trod enc Tryd.prog W 0 (fun _ => true) true 36 (.slice a len cap) d p) :
    ∃ g, StrsAt W a len g ∧ tots g len + len ≤ Rows.uptoBulk d := by
  obtain ⟨fuel, hf⟩ := h
  rcases Go.Deep.open_strs Tryd.underlying36 Tryd.underlying9 cells_string hf with ⟨hcs, hx⟩ | ⟨x, l, c, m, g, hcs, _, hl, hm, hmm, hx, hcell⟩
  · simp [Value.cells] at hcs
    obtain ⟨rfl, rfl, rfl⟩ := hcs
    exact ⟨fun _ => ⟨#[]⟩, fun h => absurd h (by omega), by simp [tots]⟩
  · simp [Value.cells] at hcs
    obtain ⟨rfl, rfl, rfl⟩ := hcs
    simp only [Prod.mk.injEq] at hx
    obtain ⟨rfl, rfl⟩ := hx
    simp only [if_true] at hmm
    refine ⟨g, fun hn => ?_, ?_⟩
    · obtain ⟨b, off, spot⟩ := x
      have hspot : spot = none := by simpa [Addr.add] using World.cell?_spot (hcell 0 (by omega)).1
      subst hspot
      refine ⟨b, off, rfl, fun i hi => ?_⟩
      have h1 := (hcell i (by omega)).1
      have ea : (Addr.mk b off none).add i = ⟨b, off + i, none⟩ := by unfold Addr.add; split <;> simp_all
      rw [ea] at h1
      exact h1
    · have := bulk_strs (H := H) g len
      simp only [Rows.uptoBulk]
      omega
end Go.Proofs.YtibeiggedmabkaaDoor
