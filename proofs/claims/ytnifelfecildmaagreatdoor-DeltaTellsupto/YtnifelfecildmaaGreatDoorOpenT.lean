/-
  Arrays of two that came in: two numbers with infinitely small parts, two limbs.
-/
import Derived.Test.YtnifelfecildmaaGreatDoorOpenL
import Derived.Test.YtnifelfecildmaaGreatDoorWG3
import Derived.OpenShut
namespace Go.Proofs.YtnifelfecildmaaGreatDoor
open Go.ChangeShapes Go.WideShapes Go.ChangeAt Go.RowKit Go.Deep
set_option linter.unusedVariables false
set_option linter.unusedSimpArgs false

instance : Inhabited GapV := ⟨⟨⟨default, default⟩, ⟨default, default⟩⟩⟩
theorem cells_DelG : Tryz.prog.cellsOf 40 = 6 := by kernel_rfl
def DelV.bulk (d : DelV) : Nat := (d.a.n + d.a.m + 1) + (d.b.n + d.b.m + 1)
def GapV.bulk (g : GapV) : Nat := g.lo.bulk + g.hi.bulk
set_option maxRecDepth 100000 in
theorem open_DelV6 {H : Type} {enc : TypeId × Value → H} {W : World} {c0 c1 c2 c3 c4 c5 : Value} {d : DataW H} {p : List MemPlace} {fuel : Nat}
    (hf : DataW.trod enc Tryz.prog W 0 (fun _ => true) true fuel 40 [c0, c1, c2, c3, c4, c5] = some (d, p))
    (hsz : (d.weights Tryz.prog 40).all (· ≤ reachBytes) = true) :
    ∃ D : DelV, c0 = .bool D.a.s ∧ c1 = .slice D.a.a D.a.n D.a.c ∧ c2 = .slice D.a.b D.a.m D.a.e ∧ c3 = .bool D.b.s ∧ c4 = .slice D.b.a D.b.n D.b.c ∧ c5 = .slice D.b.b D.b.m D.b.e ∧ D.ok W ∧ D.bulk ≤ Rows.uptoBulk d := by
  obtain ⟨y0, y1, n, hx, hl, h0, h1⟩ := trod_struct2 Tryz.underlying40 hf
  simp only [List.drop_zero, cells_Rat] at h0 h1
  change DataW.trod enc _ _ _ _ _ n 28 [c0, c1, c2] = _ at h0
  change DataW.trod enc _ _ _ _ _ n 28 [c3, c4, c5] = _ at h1
  simp only [Prod.mk.injEq] at hx
  obtain ⟨rfl, rfl⟩ := hx
  obtain ⟨y0d, y0p⟩ := y0
  obtain ⟨y1d, y1p⟩ := y1
  have hu := Tryz.underlying40
  simp only [DataW.weights, hu, DataW.weightsEach, List.map] at hsz
  simp only [List.all_append, Bool.and_eq_true] at hsz
  obtain ⟨q, r0, r1, r2, hok, hbk⟩ := open_Rat3 h0 hsz.1
  obtain ⟨r, t0, t1, t2, hok', hbk'⟩ := open_Rat3 h1 hsz.2.1
  exact ⟨⟨q, r⟩, r0, r1, r2, t0, t1, t2, ⟨hok, hok'⟩, by unfold DelV.bulk; simp only [Rows.uptoBulk, Rows.uptoBulkAll] at hbk hbk' ⊢; omega⟩
end Go.Proofs.YtnifelfecildmaaGreatDoor

namespace Go.Proofs.YtnifelfecildmaaGreatDoor
open Go.ChangeShapes Go.WideShapes Go.ChangeAt Go.RowKit Go.Deep
set_option linter.unusedVariables false
set_option linter.unusedSimpArgs false

theorem okWide_array {P : Program} {w : World} {r : Reach} {base : Nat} {t : TypeId} {v : Value} {n : Nat} {e : TypeId} (ht : P.underlying t = some (.array n e)) (h : Value.okWide P w r base t v) : ∃ cs, v = .agg cs ∧ cs.size = P.cellsOf t := by
  simp only [Value.okWide, ht] at h
  obtain ⟨cs, h1, h2, _⟩ := h
  exact ⟨cs, h1, h2⟩
theorem cells_Del2 : Tryz.prog.cellsOf 51 = 12 := by kernel_rfl
theorem cells_U2 : Tryz.prog.cellsOf 52 = 2 := by kernel_rfl
theorem cells_u32T : Tryz.prog.cellsOf 37 = 1 := by kernel_rfl
set_option maxRecDepth 100000 in
theorem open_Del2 {H : Type} {enc : TypeId × Value → H} {W : World} {r : Reach} {b0 : Nat} {v : Value} {d : DataW H} {p : List MemPlace}
    (hv : Value.okWide Tryz.prog W r b0 51 v) (h : DataW.Trod enc Tryz.prog W 0 (fun _ => true) true 51 v d p)
    (hsz : (d.weights Tryz.prog 51).all (· ≤ reachBytes) = true) :
    ∃ D E : DelV, v = .agg #[.bool D.a.s, .slice D.a.a D.a.n D.a.c, .slice D.a.b D.a.m D.a.e, .bool D.b.s, .slice D.b.a D.b.n D.b.c, .slice D.b.b D.b.m D.b.e, .bool E.a.s, .slice E.a.a E.a.n E.a.c, .slice E.a.b E.a.m E.a.e, .bool E.b.s, .slice E.b.a E.b.n E.b.c, .slice E.b.b E.b.m E.b.e] ∧ D.ok W ∧ E.ok W ∧ D.bulk + E.bulk ≤ Rows.uptoBulk d := by
  obtain ⟨cs, rfl, hcs⟩ := okWide_array Tryz.underlying51 hv
  obtain ⟨fuel, hf⟩ := h
  obtain ⟨xs, n, _, hx, hl, hlen, hff⟩ := DataW.trod_array Tryz.underlying51 hf
  rw [cells_Del2] at hcs
  obtain ⟨c0, c1, c2, c3, c4, c5, c6, c7, c8, c9, c10, c11, rfl⟩ : ∃ c0 c1 c2 c3 c4 c5 c6 c7 c8 c9 c10 c11, cs = #[c0, c1, c2, c3, c4, c5, c6, c7, c8, c9, c10, c11] := by
    match cs, hcs with
    | ⟨[c0, c1, c2, c3, c4, c5, c6, c7, c8, c9, c10, c11]⟩, _ => exact ⟨c0, c1, c2, c3, c4, c5, c6, c7, c8, c9, c10, c11, rfl⟩
  obtain ⟨y0, y1, rfl⟩ : ∃ y0 y1, xs = [y0, y1] := by
    match xs, hlen with
    | [y0, y1], _ => exact ⟨y0, y1, rfl⟩
  have h0 := hff 0 (by omega)
  have h1 := hff 1 (by omega)
  rw [cells_DelG] at h0 h1
  change DataW.trod enc _ _ _ _ _ n 40 [c0, c1, c2, c3, c4, c5] = some y0 at h0
  change DataW.trod enc _ _ _ _ _ n 40 [c6, c7, c8, c9, c10, c11] = some y1 at h1
  simp only [Prod.mk.injEq] at hx
  obtain ⟨rfl, rfl⟩ := hx
  obtain ⟨y0d, y0p⟩ := y0
  obtain ⟨y1d, y1p⟩ := y1
  have hu := Tryz.underlying51
  simp only [List.map, DataW.weights, hu, DataW.weightsAll] at hsz
  simp only [List.all_append, Bool.and_eq_true] at hsz
  obtain ⟨D, rfl, rfl, rfl, rfl, rfl, rfl, q1, q2⟩ := open_DelV6 h0 hsz.1
  obtain ⟨E, rfl, rfl, rfl, rfl, rfl, rfl, r1, r2⟩ := open_DelV6 h1 hsz.2.1
  exact ⟨D, E, rfl, q1, r1, by simp only [Rows.uptoBulk, Rows.uptoBulkAll, List.map] at q2 r2 ⊢; omega⟩
set_option maxRecDepth 100000 in
theorem open_U2 {H : Type} {enc : TypeId × Value → H} {W : World} {r : Reach} {b0 : Nat} {v : Value} {d : DataW H} {p : List MemPlace}
    (hv : Value.okWide Tryz.prog W r b0 52 v) (h : DataW.Trod enc Tryz.prog W 0 (fun _ => true) true 52 v d p) :
    ∃ x y : Nat, v = .agg #[.int .u32 (x : Int), .int .u32 (y : Int)] ∧ x < 4294967296 ∧ y < 4294967296 := by
  obtain ⟨cs, rfl, hcs⟩ := okWide_array Tryz.underlying52 hv
  obtain ⟨fuel, hf⟩ := h
  obtain ⟨xs, n, _, hx, hl, hlen, hff⟩ := DataW.trod_array Tryz.underlying52 hf
  rw [cells_U2] at hcs
  obtain ⟨c0, c1, rfl⟩ : ∃ c0 c1, cs = #[c0, c1] := by
    match cs, hcs with
    | ⟨[c0, c1]⟩, _ => exact ⟨c0, c1, rfl⟩
  obtain ⟨y0, y1, rfl⟩ : ∃ y0 y1, xs = [y0, y1] := by
    match xs, hlen with
    | [y0, y1], _ => exact ⟨y0, y1, rfl⟩
  have h0 := hff 0 (by omega)
  have h1 := hff 1 (by omega)
  rw [cells_u32T] at h0 h1
  change DataW.trod enc _ _ _ _ _ n 37 [c0] = some y0 at h0
  change DataW.trod enc _ _ _ _ _ n 37 [c1] = some y1 at h1
  obtain ⟨a, e0, _, hw⟩ := DataW.trod_int Tryz.underlying37 h0
  obtain ⟨b, e1, _, hw1⟩ := DataW.trod_int Tryz.underlying37 h1
  simp only [List.cons.injEq, and_true] at e0 e1
  subst e0 e1
  have k0 : 0 ≤ a ∧ a < 4294967296 := by have := bounds_u32 hw; omega
  have k1 : 0 ≤ b ∧ b < 4294967296 := by have := bounds_u32 hw1; omega
  exact ⟨a.toNat, b.toNat, by rw [Int.toNat_of_nonneg k0.1, Int.toNat_of_nonneg k1.1], by omega, by omega⟩
end Go.Proofs.YtnifelfecildmaaGreatDoor
