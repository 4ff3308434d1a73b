/-
  From what a law's row hands over (clauses, lists of clauses, truths that came in) to the walks' words.
-/
import Derived.Test.YtbcbgglhhfdbcabTKO
import Derived.Test.YtbcbgglhhfdbcabCL0
import Derived.Deep.Matrix
import Derived.Deep.Grids
import Derived.Sort.Row
namespace Go.Proofs.Ytbcbgglhhfdbcab
open Go.ChangeShapes Go.WideShapes Go.ChangeAt Go.RowKit
set_option linter.unusedVariables false
set_option linter.unusedSimpArgs false
/-- how much a list of clauses is -/
def bulkC (f : Nat → Cla) : Nat → Nat
  | 0 => 0
  | n + 1 => bulkC f n + (f n).n + 1
theorem bulkAll_appC {H : Type} : ∀ (a b : List (DataW H)), Rows.uptoBulkAll (a ++ b) = Rows.uptoBulkAll a + Rows.uptoBulkAll b
  | [], b => by simp [Rows.uptoBulkAll]
  | x :: a, b => by simp only [List.cons_append, Rows.uptoBulkAll]; rw [bulkAll_appC a b]; omega
theorem bulk_litsC {H : Type} : ∀ (l : List Int), l.length ≤ Rows.uptoBulkAll (lits (H := H) .i64 l)
  | [] => by simp [lits, Rows.uptoBulkAll]
  | z :: r => by
    have ih := bulk_litsC (H := H) r
    simp only [lits, List.map_cons, Rows.uptoBulkAll, Rows.uptoBulk, List.length_cons] at ih ⊢
    omega
theorem bulkC_le {H : Type} {D : Nat → DataW H} {f : Nat → Cla} : ∀ (n : Nat), (∀ i, i < n → (f i).n + 1 ≤ Rows.uptoBulk (D i)) → bulkC f n ≤ Rows.uptoBulkAll ((List.range n).map D)
  | 0, _ => by simp [bulkC]
  | n + 1, h => by
    have h1 := bulkC_le n fun i hi => h i (by omega)
    have h2 := h n (by omega)
    rw [List.range_succ, List.map_append, bulkAll_appC]
    simp only [bulkC, List.map, Rows.uptoBulkAll]
    omega
theorem cells_intC : Try.prog.cellsOf 3 = 1 := by kernel_rfl
set_option maxRecDepth 30000 in
theorem open_Cla {H : Type} {enc : TypeId × Value → H} {W : World} {a : Option Addr} {len cap : Nat} {d : DataW H} {p : List MemPlace}
    (h : DataW.Trod enc Try.prog W 0 (fun _ => true) true 35 (.slice a len cap) d p) :
    ∃ g, LitsAt W a len g ∧ len ≤ cap ∧ len + 1 ≤ Rows.uptoBulk d := by
  obtain ⟨fuel, hf⟩ := h
  rcases open_ints Try.underlying35 Try.underlying3 cells_intC hf with ⟨hcs, hx⟩ | ⟨x, l, c, zs, hcs, _, hl, hm, hz, hx, hcell, hwz⟩
  · simp [Value.cells] at hcs
    obtain ⟨rfl, rfl, rfl⟩ := hcs
    simp only [Prod.mk.injEq] at hx
    obtain ⟨rfl, rfl⟩ := hx
    exact ⟨fun _ => 0, ⟨by omega, fun i hi => absurd hi (by omega), fun h => absurd h (by omega)⟩, Nat.le_refl _, by simp [Rows.uptoBulk]⟩
  · simp [Value.cells] at hcs
    obtain ⟨rfl, rfl, rfl⟩ := hcs
    simp only [Prod.mk.injEq] at hx
    obtain ⟨rfl, rfl⟩ := hx
    simp only [if_true] at hz
    have hlen : (zs.take len).length = len := by simp; omega
    unfold maxLen at hm
    refine ⟨fun i => zs.getD i 0, ⟨by omega, fun i hi => ?_, fun hn => ?_⟩, hl, ?_⟩
    · have e : zs.getD i 0 = zs[i]'(by omega) := by simp [List.getD, List.getElem?_eq_getElem (show i < zs.length by omega)]
      have := bounds_i64 (hwz (zs.getD i 0) (by rw [e]; exact List.getElem_mem _))
      omega
    · obtain ⟨b, off, spot⟩ := x
      have hspot : spot = none := by simpa [Addr.add] using World.cell?_spot (hcell 0 (by omega))
      subst hspot
      refine ⟨b, off, rfl, fun i hi => ?_⟩
      have h1 := hcell i (by omega)
      have ea : (Addr.mk b off none).add i = ⟨b, off + i, none⟩ := by unfold Addr.add; split <;> simp_all
      rw [ea] at h1
      exact h1
    · have := bulk_litsC (H := H) (zs.take len)
      simp only [Rows.uptoBulk]
      omega
theorem cells_ClauseC : Try.prog.cellsOf 35 = 1 := by kernel_rfl
set_option maxRecDepth 30000 in
theorem open_Clas {H : Type} {enc : TypeId × Value → H} {W : World} {a : Option Addr} {len cap : Nat} {d : DataW H} {p : List MemPlace}
    (h : DataW.Trod enc Try.prog W 0 (fun _ => true) true 22 (.slice a len cap) d p) :
    ∃ f, ClasAt W a len f ∧ (∀ i, i < len → (f i).n ≤ (f i).c) ∧ len ≤ cap ∧ bulkC f len + 1 ≤ Rows.uptoBulk d := by
  obtain ⟨fuel, hf⟩ := h
  rcases Go.Deep.open_int_rows Try.underlying22 Try.underlying35 Try.underlying3 cells_ClauseC cells_intC hf with ⟨hcs, hx⟩ | ⟨x, l, c, A, L, C, Z, hcs, _, hl, hm, hx, hel⟩
  · simp [Value.cells] at hcs
    obtain ⟨rfl, rfl, rfl⟩ := hcs
    simp only [Prod.mk.injEq] at hx
    obtain ⟨rfl, rfl⟩ := hx
    exact ⟨default, ⟨by omega, fun i hi => absurd hi (by omega), fun h => absurd h (by omega)⟩, fun i hi => absurd hi (by omega), Nat.le_refl _, by simp [bulkC, Rows.uptoBulk]⟩
  · simp [Value.cells] at hcs
    obtain ⟨rfl, rfl, rfl⟩ := hcs
    simp only [Prod.mk.injEq] at hx
    obtain ⟨rfl, rfl⟩ := hx
    unfold maxLen at hm
    have hrow : ∀ i, i < cap → L i + 1 ≤ Rows.uptoBulk (Go.Deep.intRow (H := H) .i64 (A i) (L i) (Z i)) := by
      intro i hi
      obtain ⟨_, h1, _, h3, _, h5, _⟩ := hel i hi
      unfold Go.Deep.intRow
      cases hA : A i with
      | none => have := h5 hA; simp only [Rows.uptoBulk]; omega
      | some y =>
        have := bulk_litsC (H := H) ((Z i).take (L i))
        have e : ((Z i).take (L i)).length = L i := by simp; omega
        simp only [Rows.uptoBulk]
        omega
    refine ⟨fun i => ⟨A i, L i, C i, fun j => (Z i).getD j 0⟩, ⟨by omega, fun i hi => ?_, fun hn => ?_⟩, fun i hi => (hel i (by omega)).2.1, hl, ?_⟩
    · obtain ⟨_, h1, h2, h3, h4, h5, h6⟩ := hel i (by omega)
      unfold maxLen at h2
      refine ⟨by show L i ≤ _; omega, fun j hj => ?_, fun hn => ?_⟩
      · have hj' : j < L i := hj
        have e : (Z i).getD j 0 = (Z i)[j]'(by omega) := by simp [List.getD, List.getElem?_eq_getElem (show j < (Z i).length by omega)]
        have := bounds_i64 (h4 ((Z i).getD j 0) (by rw [e]; exact List.getElem_mem _))
        show -9223372036854775808 ≤ (Z i).getD j 0 ∧ (Z i).getD j 0 ≤ 9223372036854775807
        omega
      · have hn' : 0 < L i := hn
        cases hA : A i with
        | none => have := h5 hA; omega
        | some y =>
          have hc := (h6 y hA).2
          obtain ⟨b, off, spot⟩ := y
          have hspot : spot = none := by simpa [Addr.add] using World.cell?_spot (hc 0 (by omega))
          subst hspot
          refine ⟨b, off, hA, fun j hj => ?_⟩
          have hj' : j < L i := hj
          have h9 := hc j (by omega)
          have ea : (Addr.mk b off none).add j = ⟨b, off + j, none⟩ := by unfold Addr.add; split <;> simp_all
          rw [ea] at h9
          exact h9
    · obtain ⟨b, off, spot⟩ := x
      have hspot : spot = none := by simpa [Addr.add] using World.cell?_spot (hel 0 (by omega)).1
      subst hspot
      refine ⟨b, off, rfl, fun i hi => ?_⟩
      have h1 := (hel i (by omega)).1
      have ea : (Addr.mk b off none).add i = ⟨b, off + i, none⟩ := by unfold Addr.add; split <;> simp_all
      rw [ea] at h1
      exact h1
    · have := bulkC_le (H := H) (D := fun r => Go.Deep.intRow .i64 (A r) (L r) (Z r)) (f := fun i => ⟨A i, L i, C i, fun j => (Z i).getD j 0⟩) len fun i hi => hrow i (by omega)
      simp only [Rows.uptoBulk]
      omega
end Go.Proofs.Ytbcbgglhhfdbcab
