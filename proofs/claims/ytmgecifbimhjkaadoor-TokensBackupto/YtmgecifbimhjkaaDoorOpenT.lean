/-
  From what a law's row hands over (an api.Token that came in) to the walks' words.
-/
import Derived.Test.YtmgecifbimhjkaaDoorTKO
namespace Go.Proofs.YtmgecifbimhjkaaDoor
open Go.ChangeShapes Go.WideShapes Go.ChangeAt Go.RowKit
set_option linter.unusedVariables false
set_option linter.unusedSimpArgs false
theorem cells_int : Tryd.prog.cellsOf 3 = 1 := by kernel_rfl
theorem cells_string : Tryd.prog.cellsOf 9 = 1 := by kernel_rfl
theorem cells_Tok : Tryd.prog.cellsOf 23 = 6 := by kernel_rfl
set_option maxRecDepth 100000 in
theorem open_Tok {H : Type} {enc : TypeId × Value → H} {W : World} {r : Reach} {b0 : Nat} {v : Value} {d : DataW H} {p : List MemPlace}
    (hv : Value.okWide Tryd.prog W r b0 23 v) (h : DataW.Trod enc Tryd.prog W 0 (fun _ => true) true 23 v d p) :
    ∃ (k : Int) (t : ByteArray) (b e l c : Int), v = .agg #[.int .i64 k, .string t, .int .i64 b, .int .i64 e, .int .i64 l, .int .i64 c] ∧ t.size + 1 ≤ Rows.uptoBulk d := by
  obtain ⟨cs, rfl, hcs⟩ := okWide_struct Tryd.underlying23 hv
  obtain ⟨fuel, hf⟩ := h
  obtain ⟨xs, n, _, hx, hl, hlen, hff⟩ := DataW.trod_struct Tryd.underlying23 hf
  rw [cells_Tok] at hcs
  obtain ⟨c0, c1, c2, c3, c4, c5, rfl⟩ : ∃ c0 c1 c2 c3 c4 c5, cs = #[c0, c1, c2, c3, c4, c5] := by
    match cs, hcs with
    | ⟨[c0, c1, c2, c3, c4, c5]⟩, _ => exact ⟨c0, c1, c2, c3, c4, c5, rfl⟩
  obtain ⟨y0, y1, y2, y3, y4, y5, rfl⟩ : ∃ y0 y1 y2 y3 y4 y5, xs = [y0, y1, y2, y3, y4, y5] := by
    match xs, hlen with
    | [y0, y1, y2, y3, y4, y5], _ => exact ⟨y0, y1, y2, y3, y4, y5, rfl⟩
  have h0 := hff 0 _ rfl
  have h1 := hff 1 _ rfl
  have h2 := hff 2 _ rfl
  have h3 := hff 3 _ rfl
  have h4 := hff 4 _ rfl
  have h5 := hff 5 _ rfl
  simp only [Value.cells, List.drop_zero, cells_int, cells_string] at h0 h1 h2 h3 h4 h5
  change DataW.trod enc _ _ _ _ _ n 3 [c0] = some y0 at h0
  change DataW.trod enc _ _ _ _ _ n 9 [c1] = some y1 at h1
  change DataW.trod enc _ _ _ _ _ n 3 [c2] = some y2 at h2
  change DataW.trod enc _ _ _ _ _ n 3 [c3] = some y3 at h3
  change DataW.trod enc _ _ _ _ _ n 3 [c4] = some y4 at h4
  change DataW.trod enc _ _ _ _ _ n 3 [c5] = some y5 at h5
  simp only [Prod.mk.injEq] at hx
  obtain ⟨rfl, rfl⟩ := hx
  obtain ⟨k, hk1, hk2, hk3⟩ := DataW.trod_int Tryd.underlying3 h0
  obtain ⟨t, ht1, ht2, _⟩ := DataW.trod_string Tryd.underlying9 h1
  obtain ⟨b, hb1, hb2, _⟩ := DataW.trod_int Tryd.underlying3 h2
  obtain ⟨e, he1, he2, _⟩ := DataW.trod_int Tryd.underlying3 h3
  obtain ⟨l, hl1, hl2, _⟩ := DataW.trod_int Tryd.underlying3 h4
  obtain ⟨c, hc1, hc2, _⟩ := DataW.trod_int Tryd.underlying3 h5
  simp only [List.cons.injEq, and_true] at hk1 ht1 hb1 he1 hl1 hc1
  subst hk1 ht1 hb1 he1 hl1 hc1 hk2 ht2 hb2 he2 hl2 hc2
  refine ⟨k, t, b, e, l, c, rfl, ?_⟩
  · have : t.size = t.data.toList.length := by rw [Array.length_toList]; rfl
    simp only [List.map, Rows.uptoBulk, Rows.uptoBulkAll]
    omega
end Go.Proofs.YtmgecifbimhjkaaDoor
