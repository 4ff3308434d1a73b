/-
  From what a law's row hands over (a list of api.Gap that came in) to the walks' words.
-/
import Derived.Test.YtnifelfecildmaaGreatDoorOpenL
import Derived.Test.YtnifelfecildmaaGreatDoorWG3
namespace Go.Proofs.YtnifelfecildmaaGreatDoor
open Go.ChangeShapes Go.WideShapes Go.ChangeAt Go.RowKit Go.Deep
set_option linter.unusedVariables false
set_option linter.unusedSimpArgs false

instance : Inhabited GapV := ⟨⟨⟨default, default⟩, ⟨default, default⟩⟩⟩
theorem cells_DelG : Tryz.prog.cellsOf 40 = 6 := by kernel_rfl
theorem cells_Gap : Tryz.prog.cellsOf 42 = 12 := by kernel_rfl
theorem bytes_Gap : Tryz.prog.bytesOf 42 = 224 := by kernel_rfl
def DelV.bulk (d : DelV) : Nat := (d.a.n + d.a.m + 1) + (d.b.n + d.b.m + 1)
def GapV.bulk (g : GapV) : Nat := g.lo.bulk + g.hi.bulk
def bulkG (k : Nat → GapV) : Nat → Nat
  | 0 => 0
  | n + 1 => bulkG k n + (k n).bulk
theorem bulkG_at {k : Nat → GapV} : ∀ (n i : Nat), i < n → (k i).bulk ≤ bulkG k n
  | 0, i, h => absurd h (by omega)
  | n + 1, i, h => by
    simp only [bulkG]
    rcases Nat.lt_or_ge i n with h1 | h1
    · have := bulkG_at (k := k) n i h1; omega
    · obtain rfl : i = n := by omega
      omega
theorem bulkG_n {k : Nat → GapV} : ∀ (n : Nat), n ≤ bulkG k n
  | 0 => Nat.zero_le _
  | n + 1 => by have := bulkG_n (k := k) n; simp only [bulkG, GapV.bulk, DelV.bulk]; omega
theorem bulkG_tiny {k : Nat → GapV} {n i : Nat} (h : bulkG k n ≤ 1048576) (hi : i < n) : (k i).tiny := by
  have h1 := bulkG_at (k := k) n i hi
  unfold GapV.bulk DelV.bulk at h1
  exact ⟨⟨by omega, by omega, by omega, by omega⟩, ⟨by omega, by omega, by omega, by omega⟩⟩
/-- the cells of a gap -/
def GapV.cellsL (g : GapV) : List Value := [.bool g.lo.a.s, .slice g.lo.a.a g.lo.a.n g.lo.a.c, .slice g.lo.a.b g.lo.a.m g.lo.a.e, .bool g.lo.b.s, .slice g.lo.b.a g.lo.b.n g.lo.b.c, .slice g.lo.b.b g.lo.b.m g.lo.b.e, .bool g.hi.a.s, .slice g.hi.a.a g.hi.a.n g.hi.a.c, .slice g.hi.a.b g.hi.a.m g.hi.a.e, .bool g.hi.b.s, .slice g.hi.b.a g.hi.b.n g.hi.b.c, .slice g.hi.b.b g.hi.b.m g.hi.b.e]
set_option maxRecDepth 100000 in
theorem open_DelV6 {H : Type} {enc : TypeId × Value → H} {W : World} {c0 c1 c2 c3 c4 c5 : Value} {d : DataW H} {p : List MemPlace} {fuel : Nat}
    (hf : DataW.trod enc Tryz.prog W 0 (fun _ => true) true fuel 40 [c0, c1, c2, c3, c4, c5] = some (d, p))
    (hsz : (d.weights Tryz.prog 40).all (· ≤ reachBytes) = true) :
    ∃ D : DelV, c0 = .bool D.a.s ∧ c1 = .slice D.a.a D.a.n D.a.c ∧ c2 = .slice D.a.b D.a.m D.a.e ∧ c3 = .bool D.b.s ∧ c4 = .slice D.b.a D.b.n D.b.c ∧ c5 = .slice D.b.b D.b.m D.b.e ∧ D.ok W ∧ D.bulk ≤ Rows.uptoBulk d := by
  obtain ⟨y0, y1, n, hx, hl, h0, h1⟩ := trod_struct2 Tryz.underlying40 hf
  simp only [List.drop_zero, cells_Rat] at h0 h1
  change DataW.trod enc _ _ _ _ _ n 28 [c0, c1, c2] = _ at h0
  change DataW.trod enc _ _ _ _ _ n 28 [c3, c4, c5] = _ at h1
  simp only [Prod.mk.injEq] at hx
  obtain ⟨rfl, rfl⟩ := hx
  obtain ⟨y0d, y0p⟩ := y0
  obtain ⟨y1d, y1p⟩ := y1
  have hu := Tryz.underlying40
  simp only [DataW.weights, hu, DataW.weightsEach, List.map] at hsz
  simp only [List.all_append, Bool.and_eq_true] at hsz
  obtain ⟨q, r0, r1, r2, hok, hbk⟩ := open_Rat3 h0 hsz.1
  obtain ⟨r, t0, t1, t2, hok', hbk'⟩ := open_Rat3 h1 hsz.2.1
  exact ⟨⟨q, r⟩, r0, r1, r2, t0, t1, t2, ⟨hok, hok'⟩, by unfold DelV.bulk; simp only [Rows.uptoBulk, Rows.uptoBulkAll] at hbk hbk' ⊢; omega⟩
set_option maxRecDepth 100000 in
theorem open_Gap12 {H : Type} {enc : TypeId × Value → H} {W : World} {c0 c1 c2 c3 c4 c5 c6 c7 c8 c9 c10 c11 : Value} {d : DataW H} {p : List MemPlace} {fuel : Nat}
    (hf : DataW.trod enc Tryz.prog W 0 (fun _ => true) true fuel 42 [c0, c1, c2, c3, c4, c5, c6, c7, c8, c9, c10, c11] = some (d, p))
    (hsz : (d.weights Tryz.prog 42).all (· ≤ reachBytes) = true) :
    ∃ g : GapV, (c0 = .bool g.lo.a.s ∧ c1 = .slice g.lo.a.a g.lo.a.n g.lo.a.c ∧ c2 = .slice g.lo.a.b g.lo.a.m g.lo.a.e ∧ c3 = .bool g.lo.b.s ∧ c4 = .slice g.lo.b.a g.lo.b.n g.lo.b.c ∧ c5 = .slice g.lo.b.b g.lo.b.m g.lo.b.e) ∧ (c6 = .bool g.hi.a.s ∧ c7 = .slice g.hi.a.a g.hi.a.n g.hi.a.c ∧ c8 = .slice g.hi.a.b g.hi.a.m g.hi.a.e ∧ c9 = .bool g.hi.b.s ∧ c10 = .slice g.hi.b.a g.hi.b.n g.hi.b.c ∧ c11 = .slice g.hi.b.b g.hi.b.m g.hi.b.e) ∧ g.ok W ∧ g.bulk ≤ Rows.uptoBulk d := by
  obtain ⟨y0, y1, n, hx, hl, h0, h1⟩ := trod_struct2 Tryz.underlying42 hf
  simp only [List.drop_zero, cells_DelG] at h0 h1
  change DataW.trod enc _ _ _ _ _ n 40 [c0, c1, c2, c3, c4, c5] = _ at h0
  change DataW.trod enc _ _ _ _ _ n 40 [c6, c7, c8, c9, c10, c11] = _ at h1
  simp only [Prod.mk.injEq] at hx
  obtain ⟨rfl, rfl⟩ := hx
  obtain ⟨y0d, y0p⟩ := y0
  obtain ⟨y1d, y1p⟩ := y1
  have hu := Tryz.underlying42
  simp only [DataW.weights, hu, DataW.weightsEach, List.map] at hsz
  simp only [List.all_append, Bool.and_eq_true] at hsz
  obtain ⟨D, r0, r1, r2, r3, r4, r5, hok, hbk⟩ := open_DelV6 h0 hsz.1
  obtain ⟨E, t0, t1, t2, t3, t4, t5, hok', hbk'⟩ := open_DelV6 h1 hsz.2.1
  exact ⟨⟨D, E⟩, ⟨r0, r1, r2, r3, r4, r5⟩, ⟨t0, t1, t2, t3, t4, t5⟩, ⟨hok, hok'⟩, by unfold GapV.bulk; simp only [Rows.uptoBulk, Rows.uptoBulkAll] at hbk hbk' ⊢; omega⟩
theorem bulkG_le {H : Type} {D : Nat → DataW H} {k : Nat → GapV} : ∀ (n : Nat), (∀ i, i < n → (k i).bulk ≤ Rows.uptoBulk (D i)) → bulkG k n ≤ Rows.uptoBulkAll ((List.range n).map D)
  | 0, _ => by simp [bulkG]
  | n + 1, h => by
    have h1 := bulkG_le n fun i hi => h i (by omega)
    have h2 := h n (by omega)
    rw [List.range_succ, List.map_append, bulkAll_append]
    simp only [bulkG, List.map, Rows.uptoBulkAll]
    omega
set_option maxRecDepth 100000 in
theorem open_Gaps {H : Type} {enc : TypeId × Value → H} {W : World} {cs : List Value} {d : DataW H} {p : List MemPlace} {fuel : Nat}
    (hf : DataW.trod enc Tryz.prog W 0 (fun _ => true) true fuel 22 cs = some (d, p))
    (hsz : (d.weights Tryz.prog 22).all (· ≤ reachBytes) = true) :
    ∃ a len cap k, cs = [.slice a len cap] ∧ GapsAt W a len k ∧ (∀ i, i < len → (k i).ok W) ∧ len ≤ cap ∧ len * 224 ≤ reachBytes ∧ bulkG k len + 1 ≤ Rows.uptoBulk d := by
  rcases open_slice Tryz.underlying22 hf with ⟨rfl, hx⟩ | ⟨a, len, cap, m, n, D, Pl, rfl, hb, hl, hm, hmm, hx, hel⟩
  · simp only [Prod.mk.injEq] at hx
    obtain ⟨rfl, rfl⟩ := hx
    exact ⟨none, 0, 0, fun _ => ⟨⟨default, default⟩, ⟨default, default⟩⟩, rfl, fun h => absurd h (by omega), fun i hi => absurd hi (by omega), Nat.le_refl _, by simp [reachBytes], by simp [bulkG, Rows.uptoBulk]⟩
  · simp only [Prod.mk.injEq] at hx
    obtain ⟨rfl, rfl⟩ := hx
    have hu := Tryz.underlying22
    simp only [DataW.weights, hu] at hsz
    simp only [List.all_cons, List.all_append, Bool.and_eq_true, decide_eq_true_eq, bytes_Gap, List.length_map, List.length_range] at hsz
    obtain ⟨hs0, hs1, _⟩ := hsz
    simp only [if_true] at hmm
    have each : ∀ i, i < len → ∃ g : GapV, (∀ t z, g.cellsL[t]? = some z → W.cell? (a.add (i * 12 + t)) = some z) ∧ g.ok W ∧ g.bulk ≤ Rows.uptoBulk (D i) := by
      intro i hi
      obtain ⟨cs', h1, h2⟩ := hel i (by omega)
      rw [cells_Gap] at h1
      obtain ⟨_, hlen, hcell⟩ := World.cells?_some h1
      match cs', hlen with
      | [c0, c1, c2, c3, c4, c5, c6, c7, c8, c9, c10, c11], _ =>
        obtain ⟨g, ⟨rfl, rfl, rfl, rfl, rfl, rfl⟩, ⟨rfl, rfl, rfl, rfl, rfl, rfl⟩, hok, hbk⟩ := open_Gap12 h2 (weightsAll_mem hs1 (List.mem_map.2 ⟨i, List.mem_range.2 hi, rfl⟩))
        refine ⟨g, fun t z hz => ?_, hok, hbk⟩
        have ht : t < 12 := (List.getElem?_eq_some_iff.1 hz).1
        have e0 := hcell t (by omega)
        rw [add_add] at e0
        rw [e0]
        exact hz
    obtain ⟨z, hq⟩ := choose_lt each
    refine ⟨some a, len, cap, z, rfl, fun hn => ?_, fun i hi => (hq i hi).2.1, hl, by omega, ?_⟩
    · obtain ⟨b, off, spot⟩ := a
      have h0 := (hq 0 hn).1 0 _ rfl
      have hspot : spot = none := by simpa [Addr.add] using World.cell?_spot h0
      subst hspot
      have ea : ∀ j, (Addr.mk b off none).add j = ⟨b, off + j, none⟩ := fun j => by unfold Addr.add; split <;> simp_all
      refine ⟨b, off, rfl, ?_, fun i hi => ?_⟩
      · rw [ea] at h0
        obtain ⟨cur, e, fr, hb, _⟩ := Sort.cells_of_cell? h0
        exact (Array.getElem?_eq_some_iff.1 hb).1
      · have := (hq i hi).1
        simp only [ea] at this
        have th : ∀ t z9, (z i).cellsL[t]? = some z9 → W.cell? ⟨b, off + i * 12 + t, none⟩ = some z9 := fun t z9 hz => by rw [Nat.add_assoc]; exact this t z9 hz
        exact ⟨th 0 _ rfl, th 1 _ rfl, th 2 _ rfl, th 3 _ rfl, th 4 _ rfl, th 5 _ rfl, th 6 _ rfl, th 7 _ rfl, th 8 _ rfl, th 9 _ rfl, th 10 _ rfl, th 11 _ rfl⟩
    · have := bulkG_le (D := D) (k := z) len fun i hi => (hq i hi).2.2
      simp only [Rows.uptoBulk]
      omega
end Go.Proofs.YtnifelfecildmaaGreatDoor
