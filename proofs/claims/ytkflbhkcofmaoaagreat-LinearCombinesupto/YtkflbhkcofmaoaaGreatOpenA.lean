/-
  An api.Affine that came in.
-/
import Derived.Test.YtkflbhkcofmaoaaGreatOpenL
import Derived.Test.YtkflbhkcofmaoaaGreatWN4
namespace Go.Proofs.YtkflbhkcofmaoaaGreat
open Go.ChangeShapes Go.WideShapes Go.ChangeAt Go.RowKit Go.Deep
set_option linter.unusedVariables false

/-- a form that came in, as a list of parts -/
def mos (v : Nat → Int) (f : Nat → RatV) (n : Nat) : List Mo := (List.range n).map fun i => (v i, f i)
theorem mos_length (v : Nat → Int) (f : Nat → RatV) (n : Nat) : (mos v f n).length = n := by unfold mos; rw [List.length_map, List.length_range]
theorem mos_mem {v : Nat → Int} {f : Nat → RatV} {n : Nat} {p : Mo} (h : p ∈ mos v f n) : ∃ i, i < n ∧ p = (v i, f i) := by
  obtain ⟨i, hi, rfl⟩ := List.mem_map.1 h
  exact ⟨i, List.mem_range.1 hi, rfl⟩
theorem mos_at {w : World} {a : Option Addr} {n : Nat} {v : Nat → Int} {f : Nat → RatV} (h : FormAt w a n v f) : FAt w a (mos v f n) := fun hn => by
  have h0 : 0 < n := by
    rcases Nat.eq_zero_or_pos n with e | e
    · subst e; exact absurd rfl hn
    · exact e
  obtain ⟨b, off, e, hl, hc⟩ := h h0
  refine ⟨b, off, e, hl, fun i p hi => ?_⟩
  unfold mos at hi
  rw [List.getElem?_map] at hi
  have hin : i < n := by
    rcases Nat.lt_or_ge i n with h1 | h1
    · exact h1
    · rw [List.getElem?_eq_none (by rw [List.length_range]; exact h1)] at hi; cases hi
  rw [List.getElem?_range hin] at hi
  obtain rfl := Option.some.inj hi
  exact hc i hin
theorem bulk_n {q : Nat → RatV} : ∀ (n : Nat), n ≤ bulkV q n
  | 0 => Nat.zero_le _
  | n + 1 => by have := bulk_n (q := q) n; simp only [bulkV]; omega
end Go.Proofs.YtkflbhkcofmaoaaGreat

namespace Go.Proofs.YtkflbhkcofmaoaaGreat
open Go.ChangeShapes Go.WideShapes Go.ChangeAt Go.RowKit Go.Deep
set_option linter.unusedVariables false
set_option linter.unusedSimpArgs false

theorem cells_Affine : Tryz.prog.cellsOf 33 = 4 := by kernel_rfl
theorem cells_Form : Tryz.prog.cellsOf 25 = 1 := by kernel_rfl

set_option maxRecDepth 100000 in
/-- the same of its four cells -/
theorem open_Aff4 {H : Type} {enc : TypeId × Value → H} {W : World} {c0 c1 c2 c3 : Value} {d : DataW H} {p : List MemPlace} {fuel : Nat}
    (hf : DataW.trod enc Tryz.prog W 0 (fun _ => true) true fuel 33 [c0, c1, c2, c3] = some (d, p))
    (hsz : (d.weights Tryz.prog 33).all (· ≤ reachBytes) = true) :
    ∃ a len cap k q, ∃ Q : RatV, c0 = .slice a len cap ∧ c1 = .bool Q.s ∧ c2 = .slice Q.a Q.n Q.c ∧ c3 = .slice Q.b Q.m Q.e ∧ FormAt W a len k q ∧ (∀ i, i < len → (Lit.int .i64 (k i)).wf = true ∧ (q i).ok W) ∧ len ≤ cap ∧ Q.ok W ∧ bulkV q len + Q.n + Q.m + 1 ≤ Rows.uptoBulk d := by
  obtain ⟨y0, y1, n, hx, hl, h0, h1⟩ := trod_struct2 Tryz.underlying33 hf
  simp only [List.drop_zero, cells_Rat, cells_Form] at h0 h1
  change DataW.trod enc _ _ _ _ _ n 25 [c0] = _ at h0
  change DataW.trod enc _ _ _ _ _ n 31 [c1, c2, c3] = _ at h1
  simp only [Prod.mk.injEq] at hx
  obtain ⟨rfl, rfl⟩ := hx
  obtain ⟨y0d, y0p⟩ := y0
  obtain ⟨y1d, y1p⟩ := y1
  have hu := Tryz.underlying33
  simp only [DataW.weights, hu, DataW.weightsEach, List.map] at hsz
  simp only [List.all_append, Bool.and_eq_true] at hsz
  obtain ⟨a, len, cap, k, q, hc0, hF, hok, hcap, _, hb0⟩ := open_Form h0 hsz.1
  obtain ⟨Q, rfl, rfl, rfl, hQ, hb1⟩ := open_Rat3 h1 hsz.2.1
  simp only [List.cons.injEq, and_true] at hc0
  exact ⟨a, len, cap, k, q, Q, hc0, rfl, rfl, rfl, hF, hok, hcap, hQ, by simp only [Rows.uptoBulk, Rows.uptoBulkAll] at hb0 hb1 ⊢; omega⟩

end Go.Proofs.YtkflbhkcofmaoaaGreat
