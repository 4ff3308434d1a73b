/-
  From what a law's row hands over (an api.Rat that came in) to the walks' words.
-/
import Derived.Test.YtabchggnalbbcaaOpenI
namespace Go.Proofs.Ytabchggnalbbcaa
open Go.ChangeShapes Go.WideShapes Go.ChangeAt Go.RowKit
set_option linter.unusedVariables false

set_option maxRecDepth 100000 in
theorem open_Int2 {H : Type} {enc : TypeId × Value → H} {W : World} {c0 c1 : Value} {d : DataW H} {p : List MemPlace}
    (h : DataW.Trod enc Try.prog W 0 (fun _ => true) true 26 (.agg #[c0, c1]) d p)
    (hsz : (d.weights Try.prog 26).all (· ≤ reachBytes) = true) :
    ∃ s a len cap X, c0 = .bool s ∧ c1 = .slice a len cap ∧ Seg W a X len ∧ len ≤ cap ∧ len ≤ 35184372087808 ∧ len + 1 ≤ Rows.uptoBulk d := by
  obtain ⟨fuel, hf⟩ := h
  obtain ⟨y0, y1, n, hx, hl, h0, h1⟩ := trod_struct2 Try.underlying26 hf
  simp only [Value.cells, List.drop_zero, cells_bool, cells_nat] at h0 h1
  change DataW.trod enc _ _ _ _ _ n 4 [c0] = _ at h0
  change DataW.trod enc _ _ _ _ _ n 24 [c1] = _ at h1
  obtain ⟨b', hb, hx0⟩ := DataW.trod_bool Try.underlying4 h0
  simp only [List.cons.injEq, and_true] at hb
  subst hb hx0
  simp only [Prod.mk.injEq] at hx
  obtain ⟨rfl, rfl⟩ := hx
  have hc1 : ∃ a len cap, c1 = .slice a len cap := by
    rcases open_ints A_under_nat Try.underlying35 (by kernel_rfl) h1 with ⟨hcs, _⟩ | ⟨x, l, c, zs, hcs, _⟩
    · simp at hcs; exact ⟨_, _, _, hcs⟩
    · simp at hcs; exact ⟨_, _, _, hcs⟩
  obtain ⟨a, len, cap, rfl⟩ := hc1
  obtain ⟨y1d, y1p⟩ := y1
  obtain ⟨X, hS, hc, hb, hu⟩ := open_nat (len := len) (cap := cap) (a := a) (d := y1d) (p := y1p) A_under_nat ⟨n, h1⟩ (fun elems spare e => by
    have e' : y1d = .slice elems spare := e
    subst e'
    have hu := Try.underlying26
    simp only [DataW.weights, hu, DataW.weightsEach, List.map] at hsz
    simp only [List.all_append, Bool.and_eq_true] at hsz
    have h2 := hsz.2.1
    simp only [A_under_nat] at h2
    simp only [List.all_cons, Bool.and_eq_true, decide_eq_true_eq] at h2
    exact h2.1)
  exact ⟨b', a, len, cap, X, rfl, rfl, hS, hc, hb, by simp only [Rows.uptoBulk, Rows.uptoBulkAll] at hu ⊢; omega⟩


end Go.Proofs.Ytabchggnalbbcaa
