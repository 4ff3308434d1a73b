/-
  From what a law's row hands over (a call, a script of layer 20) to the walks' words.
-/
import Derived.Test.YtlaldooonfjcaaaOpenC
namespace Go.Proofs.Ytlaldooonfjcaaa
open Go.ChangeShapes Go.WideShapes Go.ChangeAt Go.RowKit
set_option linter.unusedVariables false
set_option linter.unusedSimpArgs false
/-- a call as it came in -/
structure OpV where
  d : Int
  a : Option Addr
  n : Nat
  c : Nat
  g : Nat → Int
  l : Int
  k : Int
instance : Inhabited OpV := ⟨⟨0, none, 0, 0, fun _ => 0, 0, 0⟩⟩
def I64 (x : Int) : Prop := -9223372036854775808 ≤ x ∧ x ≤ 9223372036854775807
theorem bounds_i64' {x : Int} (h : (Lit.int IntKind.i64 x).wf = true) : I64 x := by
  have := bounds_i64 h
  unfold I64
  omega
/-- its cells -/
def OpV.cells (o : OpV) : List Value := [.int .i64 o.d, .slice o.a o.n o.c, .int .i64 o.l, .int .i64 o.k]
structure OpV.ok (W : World) (o : OpV) : Prop where
  d : I64 o.d
  l : I64 o.l
  k : I64 o.k
  at' : LitsAt W o.a o.n o.g
  cap : o.n ≤ o.c
theorem cells_Op20 : Try.prog.cellsOf 34 = 4 := by kernel_rfl
theorem cells_Cla20 : Try.prog.cellsOf 32 = 1 := by kernel_rfl
set_option maxRecDepth 100000 in
theorem open_Op4 {H : Type} {enc : TypeId × Value → H} {W : World} {cs : List Value} {d : DataW H} {p : List MemPlace} {fuel : Nat} (hlen4 : cs.length = 4)
    (hf : DataW.trod enc Try.prog W 0 (fun _ => true) true fuel 34 cs = some (d, p)) :
    ∃ o : OpV, cs = o.cells ∧ o.ok W ∧ o.n + 4 ≤ Rows.uptoBulk d := by
  obtain ⟨xs, n, _, hx, hl, hlen, hff⟩ := DataW.trod_struct Try.underlying34 hf
  obtain ⟨c0, c1, c2, c3, rfl⟩ : ∃ c0 c1 c2 c3, cs = [c0, c1, c2, c3] := by
    match cs, hlen4 with
    | [c0, c1, c2, c3], _ => exact ⟨c0, c1, c2, c3, rfl⟩
  obtain ⟨y0, y1, y2, y3, rfl⟩ : ∃ y0 y1 y2 y3, xs = [y0, y1, y2, y3] := by
    match xs, hlen with
    | [y0, y1, y2, y3], _ => exact ⟨y0, y1, y2, y3, rfl⟩
  have h0 := hff 0 _ rfl
  have h1 := hff 1 _ rfl
  have h2 := hff 2 _ rfl
  have h3 := hff 3 _ rfl
  change DataW.trod enc _ _ _ _ _ n 3 [c0] = some y0 at h0
  change DataW.trod enc _ _ _ _ _ n 32 [c1] = some y1 at h1
  change DataW.trod enc _ _ _ _ _ n 3 [c2] = some y2 at h2
  change DataW.trod enc _ _ _ _ _ n 3 [c3] = some y3 at h3
  simp only [Prod.mk.injEq] at hx
  obtain ⟨rfl, rfl⟩ := hx
  obtain ⟨dd, hd1, hd2, hd3⟩ := DataW.trod_int Try.underlying3 h0
  obtain ⟨ll, hl1, hl2, hl3⟩ := DataW.trod_int Try.underlying3 h2
  obtain ⟨kk, hk1, hk2, hk3⟩ := DataW.trod_int Try.underlying3 h3
  obtain ⟨a, m, c, hc1⟩ : ∃ a m c, c1 = .slice a m c := by
    rcases open_ints Try.underlying32 Try.underlying3 cells_intC h1 with ⟨hcs, _⟩ | ⟨x, l, c, zs, hcs, _⟩
    · exact ⟨none, 0, 0, by simpa using hcs⟩
    · exact ⟨_, _, _, by simpa using hcs⟩
  subst hc1
  obtain ⟨g, hg, hgc, hgb⟩ := open_Cla (a := a) (len := m) (cap := c) (d := y1.1) (p := y1.2) ⟨n, h1⟩
  simp only [List.cons.injEq, and_true] at hd1 hl1 hk1
  subst hd1 hl1 hk1
  refine ⟨⟨dd, a, m, c, g, ll, kk⟩, rfl, ⟨bounds_i64' hd3, bounds_i64' hl3, bounds_i64' hk3, hg, hgc⟩, ?_⟩
  show m + 4 ≤ _
  simp only [List.map, Rows.uptoBulk, Rows.uptoBulkAll, hd2, hl2, hk2]
  omega
theorem open_Op {H : Type} {enc : TypeId × Value → H} {W : World} {r : Reach} {b0 : Nat} {v : Value} {d : DataW H} {p : List MemPlace}
    (hv : Value.okWide Try.prog W r b0 34 v) (h : DataW.Trod enc Try.prog W 0 (fun _ => true) true 34 v d p) :
    ∃ o : OpV, v = .agg #[.int .i64 o.d, .slice o.a o.n o.c, .int .i64 o.l, .int .i64 o.k] ∧ o.ok W ∧ o.n + 4 ≤ Rows.uptoBulk d := by
  obtain ⟨cs, rfl, hcs⟩ := okWide_struct Try.underlying34 hv
  obtain ⟨fuel, hf⟩ := h
  rw [cells_Op20] at hcs
  obtain ⟨o, ho, hok, hb⟩ := open_Op4 (by simp [Value.cells, hcs]) hf
  refine ⟨o, ?_, hok, hb⟩
  have e : cs.toList = o.cells := ho
  rw [show cs = o.cells.toArray from by rw [← e]]
  rfl
end Go.Proofs.Ytlaldooonfjcaaa
