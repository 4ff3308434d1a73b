/-
  An api.Affine that came in.
-/
import Derived.Test.YtoibifaklhihjaaGreatOpenL
import Derived.Test.YtoibifaklhihjaaGreatWN4
namespace Go.Proofs.YtoibifaklhihjaaGreat
open Go.ChangeShapes Go.WideShapes Go.ChangeAt Go.RowKit Go.Deep
set_option linter.unusedVariables false

set_option maxRecDepth 100000 in
theorem open_RatV {H : Type} {enc : TypeId × Value → H} {W : World} {r : Reach} {b0 : Nat} {v : Value} {d : DataW H} {p : List MemPlace}
    (hv : Value.okWide Tryz.prog W r b0 29 v) (h : DataW.Trod enc Tryz.prog W 0 (fun _ => true) true 29 v d p)
    (hsz : (d.weights Tryz.prog 29).all (· ≤ reachBytes) = true) :
    ∃ q : RatV, v = .agg #[.bool q.s, .slice q.a q.n q.c, .slice q.b q.m q.e] ∧ q.ok W ∧ q.n + q.m + 1 ≤ Rows.uptoBulk d := by
  obtain ⟨cs, rfl, hcs⟩ := okWide_struct Tryz.underlying29 hv
  obtain ⟨fuel, hf⟩ := h
  rw [cells_Rat] at hcs
  obtain ⟨c0, c1, c2, rfl⟩ : ∃ c0 c1 c2, cs = #[c0, c1, c2] := by
    match cs, hcs with
    | ⟨[c0, c1, c2]⟩, _ => exact ⟨c0, c1, c2, rfl⟩
  simp only [Value.cells] at hf
  obtain ⟨q, rfl, rfl, rfl, hok, hb⟩ := open_Rat3 hf hsz
  exact ⟨q, rfl, hok, hb⟩

/-- a form that came in, as a list of parts -/
def mos (v : Nat → Int) (f : Nat → RatV) (n : Nat) : List Mo := (List.range n).map fun i => (v i, f i)
theorem mos_length (v : Nat → Int) (f : Nat → RatV) (n : Nat) : (mos v f n).length = n := by unfold mos; rw [List.length_map, List.length_range]
theorem mos_mem {v : Nat → Int} {f : Nat → RatV} {n : Nat} {p : Mo} (h : p ∈ mos v f n) : ∃ i, i < n ∧ p = (v i, f i) := by
  obtain ⟨i, hi, rfl⟩ := List.mem_map.1 h
  exact ⟨i, List.mem_range.1 hi, rfl⟩
theorem mos_at {w : World} {a : Option Addr} {n : Nat} {v : Nat → Int} {f : Nat → RatV} (h : FormAt w a n v f) : FAt w a (mos v f n) := fun hn => by
  have h0 : 0 < n := by
    rcases Nat.eq_zero_or_pos n with e | e
    · subst e; exact absurd rfl hn
    · exact e
  obtain ⟨b, off, e, hl, hc⟩ := h h0
  refine ⟨b, off, e, hl, fun i p hi => ?_⟩
  unfold mos at hi
  rw [List.getElem?_map] at hi
  have hin : i < n := by
    rcases Nat.lt_or_ge i n with h1 | h1
    · exact h1
    · rw [List.getElem?_eq_none (by rw [List.length_range]; exact h1)] at hi; cases hi
  rw [List.getElem?_range hin] at hi
  obtain rfl := Option.some.inj hi
  exact hc i hin
theorem bulk_at {q : Nat → RatV} : ∀ (n i : Nat), i < n → (q i).n + (q i).m + n ≤ bulkV q n
  | 0, i, h => absurd h (by omega)
  | n + 1, i, h => by
    simp only [bulkV]
    rcases Nat.lt_or_ge i n with h1 | h1
    · have := bulk_at (q := q) n i h1
      omega
    · obtain rfl : i = n := by omega
      have : i ≤ bulkV q i := by
        clear h h1
        induction i with
        | zero => exact Nat.zero_le _
        | succ i ih => simp only [bulkV]; omega
      omega
theorem bulk_n {q : Nat → RatV} : ∀ (n : Nat), n ≤ bulkV q n
  | 0 => Nat.zero_le _
  | n + 1 => by have := bulk_n (q := q) n; simp only [bulkV]; omega
theorem rect {n K : Nat} (h : n + K ≤ 1048576) : n * (2 * K + 5) + 1 ≤ 1099511627776 := by
  have e : (n + K) * (n + K) ≤ 1048576 * 1048576 := Nat.mul_le_mul h h
  have e2 : 4 * (n * K) ≤ (n + K) * (n + K) := by
    have h1 : 0 ≤ ((n : Int) - K) * ((n : Int) - K) := by
      rcases Int.le_total 0 ((n : Int) - K) with h2 | h2
      · exact Int.mul_nonneg h2 h2
      · exact Int.mul_nonneg_of_nonpos_of_nonpos h2 h2
    have h2 : ((n : Int) + K) * ((n : Int) + K) = 4 * ((n : Int) * K) + ((n : Int) - K) * ((n : Int) - K) := by grind
    have h3 : (4 * ((n : Int) * K)) ≤ ((n : Int) + K) * ((n : Int) + K) := by omega
    exact_mod_cast h3
  have e3 : n * (2 * K + 5) = 2 * (n * K) + 5 * n := by grind
  omega
end Go.Proofs.YtoibifaklhihjaaGreat

namespace Go.Proofs.YtoibifaklhihjaaGreat
open Go.ChangeShapes Go.WideShapes Go.ChangeAt Go.RowKit Go.Deep
set_option linter.unusedVariables false

theorem cells_Affine : Tryz.prog.cellsOf 31 = 4 := by kernel_rfl
theorem cells_Form : Tryz.prog.cellsOf 23 = 1 := by kernel_rfl

set_option maxRecDepth 100000 in
theorem open_Affine {H : Type} {enc : TypeId × Value → H} {W : World} {r : Reach} {b0 : Nat} {v : Value} {d : DataW H} {p : List MemPlace}
    (hv : Value.okWide Tryz.prog W r b0 31 v) (h : DataW.Trod enc Tryz.prog W 0 (fun _ => true) true 31 v d p)
    (hsz : (d.weights Tryz.prog 31).all (· ≤ reachBytes) = true) :
    ∃ a len cap k q, ∃ Q : RatV, v = .agg #[.slice a len cap, .bool Q.s, .slice Q.a Q.n Q.c, .slice Q.b Q.m Q.e] ∧ FormAt W a len k q ∧ (∀ i, i < len → (Lit.int .i64 (k i)).wf = true ∧ (q i).ok W) ∧ len ≤ cap ∧ Q.ok W ∧ bulkV q len + Q.n + Q.m + 1 ≤ Rows.uptoBulk d := by
  obtain ⟨cs, rfl, hcs⟩ := okWide_struct Tryz.underlying31 hv
  obtain ⟨fuel, hf⟩ := h
  obtain ⟨y0, y1, n, hx, hl, h0, h1⟩ := trod_struct2 Tryz.underlying31 hf
  rw [cells_Affine] at hcs
  obtain ⟨c0, c1, c2, c3, rfl⟩ : ∃ c0 c1 c2 c3, cs = #[c0, c1, c2, c3] := by
    match cs, hcs with
    | ⟨[c0, c1, c2, c3]⟩, _ => exact ⟨c0, c1, c2, c3, rfl⟩
  simp only [Value.cells, List.drop_zero, cells_Rat, cells_Form] at h0 h1
  change DataW.trod enc _ _ _ _ _ n 23 [c0] = _ at h0
  change DataW.trod enc _ _ _ _ _ n 29 [c1, c2, c3] = _ at h1
  simp only [Prod.mk.injEq] at hx
  obtain ⟨rfl, rfl⟩ := hx
  obtain ⟨y0d, y0p⟩ := y0
  obtain ⟨y1d, y1p⟩ := y1
  have hu := Tryz.underlying31
  simp only [DataW.weights, hu, DataW.weightsEach, List.map] at hsz
  simp only [List.all_append, Bool.and_eq_true] at hsz
  obtain ⟨a, len, cap, k, q, hc0, hF, hok, hcap, _, hb0⟩ := open_Form h0 hsz.1
  obtain ⟨Q, rfl, rfl, rfl, hQ, hb1⟩ := open_Rat3 h1 hsz.2.1
  simp only [List.cons.injEq, and_true] at hc0
  subst hc0
  exact ⟨a, len, cap, k, q, Q, rfl, hF, hok, hcap, hQ, by simp only [Rows.uptoBulk, Rows.uptoBulkAll] at hb0 hb1 ⊢; omega⟩
end Go.Proofs.YtoibifaklhihjaaGreat
