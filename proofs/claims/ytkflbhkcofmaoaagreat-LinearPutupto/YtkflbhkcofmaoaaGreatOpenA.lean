/-
  An api.Affine that came in.
-/
import Derived.Test.YtkflbhkcofmaoaaGreatOpenL
import Derived.Test.YtkflbhkcofmaoaaGreatWN4
namespace Go.Proofs.YtkflbhkcofmaoaaGreat
open Go.ChangeShapes Go.WideShapes Go.ChangeAt Go.RowKit Go.Deep
set_option linter.unusedVariables false

/-- a form that came in, as a list of parts -/
def mos (v : Nat → Int) (f : Nat → RatV) (n : Nat) : List Mo := (List.range n).map fun i => (v i, f i)
theorem mos_length (v : Nat → Int) (f : Nat → RatV) (n : Nat) : (mos v f n).length = n := by unfold mos; rw [List.length_map, List.length_range]
theorem mos_mem {v : Nat → Int} {f : Nat → RatV} {n : Nat} {p : Mo} (h : p ∈ mos v f n) : ∃ i, i < n ∧ p = (v i, f i) := by
  obtain ⟨i, hi, rfl⟩ := List.mem_map.1 h
  exact ⟨i, List.mem_range.1 hi, rfl⟩
theorem mos_at {w : World} {a : Option Addr} {n : Nat} {v : Nat → Int} {f : Nat → RatV} (h : FormAt w a n v f) : FAt w a (mos v f n) := fun hn => by
  have h0 : 0 < n := by
    rcases Nat.eq_zero_or_pos n with e | e
    · subst e; exact absurd rfl hn
    · exact e
  obtain ⟨b, off, e, hl, hc⟩ := h h0
  refine ⟨b, off, e, hl, fun i p hi => ?_⟩
  unfold mos at hi
  rw [List.getElem?_map] at hi
  have hin : i < n := by
    rcases Nat.lt_or_ge i n with h1 | h1
    · exact h1
    · rw [List.getElem?_eq_none (by rw [List.length_range]; exact h1)] at hi; cases hi
  rw [List.getElem?_range hin] at hi
  obtain rfl := Option.some.inj hi
  exact hc i hin
theorem rect {n K : Nat} (h : n + K ≤ 1048576) : n * (2 * K + 5) + 1 ≤ 1099511627776 := by
  have e : (n + K) * (n + K) ≤ 1048576 * 1048576 := Nat.mul_le_mul h h
  have e2 : 4 * (n * K) ≤ (n + K) * (n + K) := by
    have h1 : 0 ≤ ((n : Int) - K) * ((n : Int) - K) := by
      rcases Int.le_total 0 ((n : Int) - K) with h2 | h2
      · exact Int.mul_nonneg h2 h2
      · exact Int.mul_nonneg_of_nonpos_of_nonpos h2 h2
    have h2 : ((n : Int) + K) * ((n : Int) + K) = 4 * ((n : Int) * K) + ((n : Int) - K) * ((n : Int) - K) := by grind
    have h3 : (4 * ((n : Int) * K)) ≤ ((n : Int) + K) * ((n : Int) + K) := by omega
    exact_mod_cast h3
  have e3 : n * (2 * K + 5) = 2 * (n * K) + 5 * n := by grind
  omega
end Go.Proofs.YtkflbhkcofmaoaaGreat

namespace Go.Proofs.YtkflbhkcofmaoaaGreat
open Go.ChangeShapes Go.WideShapes Go.ChangeAt Go.RowKit Go.Deep
set_option linter.unusedVariables false
set_option linter.unusedSimpArgs false

theorem cells_Affine : Tryz.prog.cellsOf 33 = 4 := by kernel_rfl
theorem cells_Form : Tryz.prog.cellsOf 25 = 1 := by kernel_rfl

set_option maxRecDepth 100000 in
/-- the same of its four cells -/
theorem open_Aff4 {H : Type} {enc : TypeId × Value → H} {W : World} {c0 c1 c2 c3 : Value} {d : DataW H} {p : List MemPlace} {fuel : Nat}
    (hf : DataW.trod enc Tryz.prog W 0 (fun _ => true) true fuel 33 [c0, c1, c2, c3] = some (d, p))
    (hsz : (d.weights Tryz.prog 33).all (· ≤ reachBytes) = true) :
    ∃ a len cap k q, ∃ Q : RatV, c0 = .slice a len cap ∧ c1 = .bool Q.s ∧ c2 = .slice Q.a Q.n Q.c ∧ c3 = .slice Q.b Q.m Q.e ∧ FormAt W a len k q ∧ (∀ i, i < len → (Lit.int .i64 (k i)).wf = true ∧ (q i).ok W) ∧ len ≤ cap ∧ Q.ok W ∧ bulkV q len + Q.n + Q.m + 1 ≤ Rows.uptoBulk d := by
  obtain ⟨y0, y1, n, hx, hl, h0, h1⟩ := trod_struct2 Tryz.underlying33 hf
  simp only [List.drop_zero, cells_Rat, cells_Form] at h0 h1
  change DataW.trod enc _ _ _ _ _ n 25 [c0] = _ at h0
  change DataW.trod enc _ _ _ _ _ n 31 [c1, c2, c3] = _ at h1
  simp only [Prod.mk.injEq] at hx
  obtain ⟨rfl, rfl⟩ := hx
  obtain ⟨y0d, y0p⟩ := y0
  obtain ⟨y1d, y1p⟩ := y1
  have hu := Tryz.underlying33
  simp only [DataW.weights, hu, DataW.weightsEach, List.map] at hsz
  simp only [List.all_append, Bool.and_eq_true] at hsz
  obtain ⟨a, len, cap, k, q, hc0, hF, hok, hcap, _, hb0⟩ := open_Form h0 hsz.1
  obtain ⟨Q, rfl, rfl, rfl, hQ, hb1⟩ := open_Rat3 h1 hsz.2.1
  simp only [List.cons.injEq, and_true] at hc0
  exact ⟨a, len, cap, k, q, Q, hc0, rfl, rfl, rfl, hF, hok, hcap, hQ, by simp only [Rows.uptoBulk, Rows.uptoBulkAll] at hb0 hb1 ⊢; omega⟩

theorem cells_Putting : Tryz.prog.cellsOf 38 = 10 := by kernel_rfl
theorem cells_Rats : Tryz.prog.cellsOf 36 = 1 := by kernel_rfl
set_option maxRecDepth 100000 in
theorem open_Putting {H : Type} {enc : TypeId × Value → H} {W : World} {r : Reach} {b0 : Nat} {v : Value} {d : DataW H} {p : List MemPlace}
    (hv : Value.okWide Tryz.prog W r b0 38 v) (h : DataW.Trod enc Tryz.prog W 0 (fun _ => true) true 38 v d p)
    (hsz : (d.weights Tryz.prog 38).all (· ≤ reachBytes) = true) :
    ∃ af n capf fv f, ∃ D : RatV, ∃ (x : Int) (ag : Option Addr) (m capg : Nat) (gv : Nat → Int) (g : Nat → RatV) (E : RatV) (av : Option Addr) (k capv : Nat) (u : Nat → RatV), v = .agg #[.slice af n capf, .bool D.s, .slice D.a D.n D.c, .slice D.b D.m D.e, .int .i64 x, .slice ag m capg, .bool E.s, .slice E.a E.n E.c, .slice E.b E.m E.e, .slice av k capv] ∧
      FormAt W af n fv f ∧ (∀ i, i < n → (Lit.int .i64 (fv i)).wf = true ∧ (f i).ok W) ∧ n ≤ capf ∧ D.ok W ∧ FormAt W ag m gv g ∧ (∀ i, i < m → (Lit.int .i64 (gv i)).wf = true ∧ (g i).ok W) ∧ m ≤ capg ∧ E.ok W ∧ RatsAt W av k u ∧ (∀ i, i < k → (u i).ok W) ∧ k ≤ capv ∧
      bulkV f n + D.n + D.m + (bulkV g m + E.n + E.m) + bulkV u k + 1 ≤ Rows.uptoBulk d := by
  obtain ⟨cs, rfl, hcs⟩ := okWide_struct Tryz.underlying38 hv
  obtain ⟨fuel, hf⟩ := h
  obtain ⟨xs, n, _, hx, hl, hlen, hff⟩ := DataW.trod_struct Tryz.underlying38 hf
  rw [cells_Putting] at hcs
  obtain ⟨c0, c1, c2, c3, c4, c5, c6, c7, c8, c9, rfl⟩ : ∃ c0 c1 c2 c3 c4 c5 c6 c7 c8 c9, cs = #[c0, c1, c2, c3, c4, c5, c6, c7, c8, c9] := by
    match cs, hcs with
    | ⟨[c0, c1, c2, c3, c4, c5, c6, c7, c8, c9]⟩, _ => exact ⟨c0, c1, c2, c3, c4, c5, c6, c7, c8, c9, rfl⟩
  obtain ⟨y0, y1, y2, y3, rfl⟩ : ∃ y0 y1 y2 y3, xs = [y0, y1, y2, y3] := by
    match xs, hlen with
    | [y0, y1, y2, y3], _ => exact ⟨y0, y1, y2, y3, rfl⟩
  have h0 := hff 0 _ rfl
  have h1 := hff 1 _ rfl
  have h2 := hff 2 _ rfl
  have h3 := hff 3 _ rfl
  simp only [Value.cells, List.drop_zero, cells_Affine, cells_int, cells_Rats] at h0 h1 h2 h3
  change DataW.trod enc _ _ _ _ _ n 33 [c0, c1, c2, c3] = some y0 at h0
  change DataW.trod enc _ _ _ _ _ n 3 [c4] = some y1 at h1
  change DataW.trod enc _ _ _ _ _ n 33 [c5, c6, c7, c8] = some y2 at h2
  change DataW.trod enc _ _ _ _ _ n 36 [c9] = some y3 at h3
  simp only [Prod.mk.injEq] at hx
  obtain ⟨rfl, rfl⟩ := hx
  obtain ⟨y0d, y0p⟩ := y0
  obtain ⟨y1d, y1p⟩ := y1
  obtain ⟨y2d, y2p⟩ := y2
  obtain ⟨y3d, y3p⟩ := y3
  have hu := Tryz.underlying38
  simp only [List.map, DataW.weights, hu, DataW.weightsEach] at hsz
  simp only [List.all_append, Bool.and_eq_true] at hsz
  obtain ⟨x, hx1, hx2, hx3⟩ := DataW.trod_int Tryz.underlying3 h1
  simp only [List.cons.injEq, and_true] at hx1
  subst hx1
  obtain ⟨af, n', capf, fv, f, D, rfl, rfl, rfl, rfl, q1, q2, q3, q4, q5⟩ := open_Aff4 h0 hsz.1
  obtain ⟨ag, m', capg, gv, g, E, rfl, rfl, rfl, rfl, r1, r2, r3, r4, r5⟩ := open_Aff4 h2 hsz.2.2.1
  obtain ⟨av, k, capv, u, hc9, s1, s2, s3, _, s5⟩ := open_Rats h3 hsz.2.2.2.1
  simp only [List.cons.injEq, and_true] at hc9
  subst hc9
  exact ⟨af, n', capf, fv, f, D, x, ag, m', capg, gv, g, E, av, k, capv, u, rfl, q1, q2, q3, q4, r1, r2, r3, r4, s1, s2, s3, by simp only [Rows.uptoBulk, Rows.uptoBulkAll, List.map] at q5 r5 s5 ⊢; omega⟩
end Go.Proofs.YtkflbhkcofmaoaaGreat
