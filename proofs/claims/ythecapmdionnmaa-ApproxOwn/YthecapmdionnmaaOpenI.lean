/-
  From what a law's row hands over (an api.Int that came in) to the walks' words.
-/
import Derived.Test.YthecapmdionnmaaOpen
import Derived.ChangeSame
namespace Go.Proofs.Ythecapmdionnmaa
open Go.ChangeShapes Go.WideShapes Go.ChangeAt Go.RowKit
set_option linter.unusedVariables false

theorem under_Int : ∃ f0 f1 : Field, Try.prog.underlying 25 = some (.struct #[f0, f1]) ∧ f0.type = 4 ∧ f1.type = 23 ∧ f0.offset = 0 ∧ f1.offset = 1 :=
  ⟨_, _, Try.underlying25, rfl, rfl, rfl, rfl⟩
theorem cells_bool : Try.prog.cellsOf 4 = 1 := by kernel_rfl
theorem cells_nat : Try.prog.cellsOf 23 = 1 := by kernel_rfl
theorem cells_Int : Try.prog.cellsOf 25 = 2 := by kernel_rfl

set_option maxRecDepth 100000 in
theorem open_Int {H : Type} {enc : TypeId × Value → H} {W : World} {r : Reach} {b0 : Nat} {v : Value} {d : DataW H} {p : List MemPlace}
    (hv : Value.okWide Try.prog W r b0 25 v) (h : DataW.Trod enc Try.prog W 0 (fun _ => true) true 25 v d p)
    (hsz : (d.weights Try.prog 25).all (· ≤ reachBytes) = true) :
    ∃ s a len cap X, v = .agg #[.bool s, .slice a len cap] ∧ Seg W a X len ∧ len ≤ cap ∧ len ≤ 35184372087808 ∧ len + 1 ≤ Rows.uptoBulk d := by
  obtain ⟨cs, rfl, hcs⟩ := okWide_struct Try.underlying25 hv
  obtain ⟨fuel, hf⟩ := h
  obtain ⟨y0, y1, n, hx, hl, h0, h1⟩ := trod_struct2 Try.underlying25 hf
  rw [cells_Int] at hcs
  obtain ⟨c0, c1, rfl⟩ : ∃ c0 c1, cs = #[c0, c1] := by
    match cs, hcs with
    | ⟨[c0, c1]⟩, _ => exact ⟨c0, c1, rfl⟩
  simp only [Value.cells, List.drop_zero, cells_bool, cells_nat] at h0 h1
  change DataW.trod enc _ _ _ _ _ n 4 [c0] = _ at h0
  change DataW.trod enc _ _ _ _ _ n 23 [c1] = _ at h1
  obtain ⟨b', hb, hx0⟩ := DataW.trod_bool Try.underlying4 h0
  simp only [List.cons.injEq, and_true] at hb
  subst hb hx0
  simp only [Prod.mk.injEq] at hx
  obtain ⟨rfl, rfl⟩ := hx
  have hc1 : ∃ a len cap, c1 = .slice a len cap := by
    rcases open_ints A_under_nat Try.underlying49 (by kernel_rfl) h1 with ⟨hcs, _⟩ | ⟨x, l, c, zs, hcs, _⟩
    · simp at hcs; exact ⟨_, _, _, hcs⟩
    · simp at hcs; exact ⟨_, _, _, hcs⟩
  obtain ⟨a, len, cap, rfl⟩ := hc1
  obtain ⟨y1d, y1p⟩ := y1
  obtain ⟨X, hS, hc, hb, hu⟩ := open_nat (len := len) (cap := cap) (a := a) (d := y1d) (p := y1p) A_under_nat ⟨n, h1⟩ (fun elems spare e => by
    have e' : y1d = .slice elems spare := e
    subst e'
    have hu := Try.underlying25
    simp only [DataW.weights, hu, DataW.weightsEach, List.map] at hsz
    simp only [List.all_append, Bool.and_eq_true] at hsz
    have h2 := hsz.2.1
    simp only [A_under_nat] at h2
    simp only [List.all_cons, Bool.and_eq_true, decide_eq_true_eq] at h2
    exact h2.1)
  exact ⟨b', a, len, cap, X, rfl, hS, hc, hb, by simp only [Rows.uptoBulk, Rows.uptoBulkAll] at hu ⊢; omega⟩

/-- the weights of the argument j -/
theorem sized_at {H : Type} {P : Program} : ∀ {ts : List TypeId} {ds : List (DataW H)} (j : Nat) {t : TypeId} {d : DataW H}, (DataW.weightsEach P ts ds).all (· ≤ reachBytes) = true → ts[j]? = some t → ds[j]? = some d → (d.weights P t).all (· ≤ reachBytes) = true := by
  intro ts ds j t d h ht hd
  rw [List.all_eq_true] at h ⊢
  exact fun x hx => h x (DataW.weights_mem_each ht hd x hx)
end Go.Proofs.Ythecapmdionnmaa
