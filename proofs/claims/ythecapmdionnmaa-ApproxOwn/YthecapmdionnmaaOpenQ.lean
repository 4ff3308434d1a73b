/-
  From what a law's row hands over (an api.Rat that came in) to the walks' words.
-/
import Derived.Test.YthecapmdionnmaaOpenI
namespace Go.Proofs.Ythecapmdionnmaa
open Go.ChangeShapes Go.WideShapes Go.ChangeAt Go.RowKit
set_option linter.unusedVariables false

theorem cells_Rat : Try.prog.cellsOf 27 = 3 := by kernel_rfl
set_option maxRecDepth 100000 in
theorem open_Int2 {H : Type} {enc : TypeId × Value → H} {W : World} {c0 c1 : Value} {d : DataW H} {p : List MemPlace}
    (h : DataW.Trod enc Try.prog W 0 (fun _ => true) true 25 (.agg #[c0, c1]) d p)
    (hsz : (d.weights Try.prog 25).all (· ≤ reachBytes) = true) :
    ∃ s a len cap X, c0 = .bool s ∧ c1 = .slice a len cap ∧ Seg W a X len ∧ len ≤ cap ∧ len ≤ 35184372087808 ∧ len + 1 ≤ Rows.uptoBulk d := by
  obtain ⟨fuel, hf⟩ := h
  obtain ⟨y0, y1, n, hx, hl, h0, h1⟩ := trod_struct2 Try.underlying25 hf
  simp only [Value.cells, List.drop_zero, cells_bool, cells_nat] at h0 h1
  change DataW.trod enc _ _ _ _ _ n 4 [c0] = _ at h0
  change DataW.trod enc _ _ _ _ _ n 23 [c1] = _ at h1
  obtain ⟨b', hb, hx0⟩ := DataW.trod_bool Try.underlying4 h0
  simp only [List.cons.injEq, and_true] at hb
  subst hb hx0
  simp only [Prod.mk.injEq] at hx
  obtain ⟨rfl, rfl⟩ := hx
  have hc1 : ∃ a len cap, c1 = .slice a len cap := by
    rcases open_ints A_under_nat Try.underlying49 (by kernel_rfl) h1 with ⟨hcs, _⟩ | ⟨x, l, c, zs, hcs, _⟩
    · simp at hcs; exact ⟨_, _, _, hcs⟩
    · simp at hcs; exact ⟨_, _, _, hcs⟩
  obtain ⟨a, len, cap, rfl⟩ := hc1
  obtain ⟨y1d, y1p⟩ := y1
  obtain ⟨X, hS, hc, hb, hu⟩ := open_nat (len := len) (cap := cap) (a := a) (d := y1d) (p := y1p) A_under_nat ⟨n, h1⟩ (fun elems spare e => by
    have e' : y1d = .slice elems spare := e
    subst e'
    have hu := Try.underlying25
    simp only [DataW.weights, hu, DataW.weightsEach, List.map] at hsz
    simp only [List.all_append, Bool.and_eq_true] at hsz
    have h2 := hsz.2.1
    simp only [A_under_nat] at h2
    simp only [List.all_cons, Bool.and_eq_true, decide_eq_true_eq] at h2
    exact h2.1)
  exact ⟨b', a, len, cap, X, rfl, rfl, hS, hc, hb, by simp only [Rows.uptoBulk, Rows.uptoBulkAll] at hu ⊢; omega⟩


set_option maxRecDepth 100000 in
theorem open_Rat {H : Type} {enc : TypeId × Value → H} {W : World} {r : Reach} {b0 : Nat} {v : Value} {d : DataW H} {p : List MemPlace}
    (hv : Value.okWide Try.prog W r b0 27 v) (h : DataW.Trod enc Try.prog W 0 (fun _ => true) true 27 v d p)
    (hsz : (d.weights Try.prog 27).all (· ≤ reachBytes) = true) :
    ∃ s a n c X b m e Y, v = .agg #[.bool s, .slice a n c, .slice b m e] ∧ Seg W a X n ∧ n ≤ c ∧ n ≤ 35184372087808 ∧ Seg W b Y m ∧ m ≤ e ∧ m ≤ 35184372087808 ∧ n + 1 ≤ Rows.uptoBulk d ∧ m + 1 ≤ Rows.uptoBulk d := by
  obtain ⟨cs, rfl, hcs⟩ := okWide_struct Try.underlying27 hv
  obtain ⟨fuel, hf⟩ := h
  obtain ⟨y0, y1, n, hx, hl, h0, h1⟩ := trod_struct2 Try.underlying27 hf
  rw [cells_Rat] at hcs
  obtain ⟨c0, c1, c2, rfl⟩ : ∃ c0 c1 c2, cs = #[c0, c1, c2] := by
    match cs, hcs with
    | ⟨[c0, c1, c2]⟩, _ => exact ⟨c0, c1, c2, rfl⟩
  simp only [Value.cells, List.drop_zero, cells_Int, cells_nat] at h0 h1
  change DataW.trod enc _ _ _ _ _ n 25 [c0, c1] = _ at h0
  change DataW.trod enc _ _ _ _ _ n 23 [c2] = _ at h1
  simp only [Prod.mk.injEq] at hx
  obtain ⟨rfl, rfl⟩ := hx
  have hc2 : ∃ a len cap, c2 = .slice a len cap := by
    rcases open_ints A_under_nat Try.underlying49 (by kernel_rfl) h1 with ⟨hcs, _⟩ | ⟨x, l, c, zs, hcs, _⟩
    · simp at hcs; exact ⟨_, _, _, hcs⟩
    · simp at hcs; exact ⟨_, _, _, hcs⟩
  obtain ⟨b, m, e, rfl⟩ := hc2
  obtain ⟨y0d, y0p⟩ := y0
  obtain ⟨y1d, y1p⟩ := y1
  have hu := Try.underlying27
  simp only [DataW.weights, hu, DataW.weightsEach, List.map] at hsz
  simp only [List.all_append, Bool.and_eq_true] at hsz
  obtain ⟨s, a, len, cap, X, rfl, rfl, hS, hc, hb, hu0⟩ := open_Int2 (c0 := c0) (c1 := c1) (d := y0d) (p := y0p) ⟨n, h0⟩ hsz.1
  obtain ⟨Y, hT, hd, hk, hu1⟩ := open_nat (len := m) (cap := e) (a := b) (d := y1d) (p := y1p) A_under_nat ⟨n, h1⟩ (fun elems spare e => by
    have e' : y1d = .slice elems spare := e
    subst e'
    have h2 := hsz.2.1
    simp only [DataW.weights, A_under_nat] at h2
    simp only [List.all_cons, Bool.and_eq_true, decide_eq_true_eq] at h2
    exact h2.1)
  exact ⟨s, a, len, cap, X, b, m, e, Y, rfl, hS, hc, hb, hT, hd, hk, by simp only [Rows.uptoBulk, Rows.uptoBulkAll] at hu0 hu1 ⊢; omega, by simp only [Rows.uptoBulk, Rows.uptoBulkAll] at hu0 hu1 ⊢; omega⟩
end Go.Proofs.Ythecapmdionnmaa
