/-
  A list of weighted forms that came in.
-/
import Derived.Test.YtkflbhkcofmaoaaGreatOpenA
import Derived.Test.YtkflbhkcofmaoaaGreatWC3
namespace Go.Proofs.YtkflbhkcofmaoaaGreat
open Go.ChangeShapes Go.WideShapes Go.ChangeAt Go.RowKit Go.Deep
set_option linter.unusedVariables false
set_option linter.unusedSimpArgs false

theorem cells_Weighted : Tryz.prog.cellsOf 49 = 7 := by kernel_rfl
theorem bytes_Weighted : Tryz.prog.bytesOf 49 = 136 := by kernel_rfl
theorem bulkL_mosW (v : Nat → Int) (f : Nat → RatV) : ∀ n, bulkL (mos v f n) = bulkV f n + n
  | 0 => rfl
  | n + 1 => by
    unfold mos
    rw [List.range_succ, List.map_append, bulkL_append]
    have h := bulkL_mosW v f n
    unfold mos at h
    rw [h]
    simp only [List.map, bulkL, bulkV]
    omega
set_option maxRecDepth 100000 in
theorem open_Wt7 {H : Type} {enc : TypeId × Value → H} {W : World} {c0 c1 c2 c3 c4 c5 c6 : Value} {d : DataW H} {p : List MemPlace} {fuel : Nat}
    (hf : DataW.trod enc Tryz.prog W 0 (fun _ => true) true fuel 49 [c0, c1, c2, c3, c4, c5, c6] = some (d, p))
    (hsz : (d.weights Tryz.prog 49).all (· ≤ reachBytes) = true) :
    ∃ k : Wtd, (c0 = .slice k.a k.L.length k.c ∧ c1 = .bool k.D.s ∧ c2 = .slice k.D.a k.D.n k.D.c ∧ c3 = .slice k.D.b k.D.m k.D.e ∧ c4 = .bool k.C.s ∧ c5 = .slice k.C.a k.C.n k.C.c ∧ c6 = .slice k.C.b k.C.m k.C.e) ∧ k.ok W ∧ k.bulk ≤ 2 * Rows.uptoBulk d := by
  obtain ⟨y0, y1, n, hx, hl, h0, h1⟩ := trod_struct2 Tryz.underlying49 hf
  simp only [List.drop_zero, cells_Affine, cells_Rat] at h0 h1
  change DataW.trod enc _ _ _ _ _ n 33 [c0, c1, c2, c3] = _ at h0
  change DataW.trod enc _ _ _ _ _ n 31 [c4, c5, c6] = _ at h1
  simp only [Prod.mk.injEq] at hx
  obtain ⟨rfl, rfl⟩ := hx
  obtain ⟨y0d, y0p⟩ := y0
  obtain ⟨y1d, y1p⟩ := y1
  have hu := Tryz.underlying49
  simp only [DataW.weights, hu, DataW.weightsEach, List.map] at hsz
  simp only [List.all_append, Bool.and_eq_true] at hsz
  obtain ⟨a, len, cap, v, q, Q, rfl, rfl, rfl, rfl, hF, hok, hcap, hQ, hb0⟩ := open_Aff4 h0 hsz.1
  obtain ⟨C, rfl, rfl, rfl, hC, hb1⟩ := open_Rat3 h1 hsz.2.1
  have hl9 := mos_length v q len
  refine ⟨⟨a, cap, mos v q len, Q, C⟩, ⟨by rw [hl9], rfl, rfl, rfl, rfl, rfl, rfl⟩, ⟨mos_at hF, fun p hp => ?_, by show (mos v q len).length ≤ cap; rw [hl9]; exact hcap, hQ, hC⟩, ?_⟩
  · obtain ⟨i, hi, rfl⟩ := mos_mem hp
    exact (hok i hi).2
  · have e := bulkL_mosW v q len
    have e2 := bulk_n (q := q) len
    show bulkL (mos v q len) + Q.n + Q.m + C.n + C.m + 1 ≤ _
    simp only [Rows.uptoBulk, Rows.uptoBulkAll] at hb0 hb1 ⊢
    omega
theorem bulkW_le {H : Type} {D : Nat → DataW H} {k : Nat → Wtd} : ∀ (n : Nat), (∀ i, i < n → (k i).bulk ≤ 2 * Rows.uptoBulk (D i)) → bulkW k n ≤ 2 * Rows.uptoBulkAll ((List.range n).map D)
  | 0, _ => by simp [bulkW]
  | n + 1, h => by
    have h1 := bulkW_le n fun i hi => h i (by omega)
    have h2 := h n (by omega)
    rw [List.range_succ, List.map_append, bulkAll_append]
    simp only [bulkW, List.map, Rows.uptoBulkAll]
    omega
instance : Inhabited Wtd := ⟨⟨none, 0, [], default, default⟩⟩
set_option maxRecDepth 100000 in
theorem open_Wts {H : Type} {enc : TypeId × Value → H} {W : World} {cs : List Value} {d : DataW H} {p : List MemPlace} {fuel : Nat}
    (hf : DataW.trod enc Tryz.prog W 0 (fun _ => true) true fuel 22 cs = some (d, p))
    (hsz : (d.weights Tryz.prog 22).all (· ≤ reachBytes) = true) :
    ∃ a len cap k, cs = [.slice a len cap] ∧ WtsAt W a len k ∧ (∀ i, i < len → (k i).ok W) ∧ len ≤ cap ∧ True ∧ bulkW k len + 1 ≤ 2 * Rows.uptoBulk d := by
  rcases open_slice Tryz.underlying22 hf with ⟨rfl, hx⟩ | ⟨a, len, cap, m, n, D, Pl, rfl, hb, hl, hm, hmm, hx, hel⟩
  · simp only [Prod.mk.injEq] at hx
    obtain ⟨rfl, rfl⟩ := hx
    exact ⟨none, 0, 0, default, rfl, fun h => absurd h (by omega), fun i hi => absurd hi (by omega), Nat.le_refl _, trivial, by simp [bulkW, Rows.uptoBulk]⟩
  · simp only [Prod.mk.injEq] at hx
    obtain ⟨rfl, rfl⟩ := hx
    have hu := Tryz.underlying22
    simp only [DataW.weights, hu] at hsz
    simp only [List.all_cons, List.all_append, Bool.and_eq_true, decide_eq_true_eq, bytes_Weighted, List.length_map, List.length_range] at hsz
    obtain ⟨hs0, hs1, _⟩ := hsz
    simp only [if_true] at hmm
    have each : ∀ i, i < len → ∃ k : Wtd, (W.cell? (a.add (i * 7)) = some (.slice k.a k.L.length k.c) ∧ W.cell? (a.add (i * 7 + 1)) = some (.bool k.D.s) ∧ W.cell? (a.add (i * 7 + 2)) = some (.slice k.D.a k.D.n k.D.c) ∧ W.cell? (a.add (i * 7 + 3)) = some (.slice k.D.b k.D.m k.D.e) ∧ W.cell? (a.add (i * 7 + 4)) = some (.bool k.C.s) ∧ W.cell? (a.add (i * 7 + 5)) = some (.slice k.C.a k.C.n k.C.c) ∧ W.cell? (a.add (i * 7 + 6)) = some (.slice k.C.b k.C.m k.C.e)) ∧ k.ok W ∧ k.bulk ≤ 2 * Rows.uptoBulk (D i) := by
      intro i hi
      obtain ⟨cs', h1, h2⟩ := hel i (by omega)
      rw [cells_Weighted] at h1
      obtain ⟨_, hlen, hcell⟩ := World.cells?_some h1
      match cs', hlen with
      | [c0, c1, c2, c3, c4, c5, c6], _ =>
        obtain ⟨k, ⟨rfl, rfl, rfl, rfl, rfl, rfl, rfl⟩, hok, hbk⟩ := open_Wt7 h2 (weightsAll_mem hs1 (List.mem_map.2 ⟨i, List.mem_range.2 hi, rfl⟩))
        have e0 := hcell 0 (by omega)
        have e1 := hcell 1 (by omega)
        have e2 := hcell 2 (by omega)
        have e3 := hcell 3 (by omega)
        have e4 := hcell 4 (by omega)
        have e5 := hcell 5 (by omega)
        have e6 := hcell 6 (by omega)
        rw [add_add] at e0 e1 e2 e3 e4 e5 e6
        exact ⟨k, ⟨by simpa using e0, by simpa using e1, by simpa using e2, by simpa using e3, by simpa using e4, by simpa using e5, by simpa using e6⟩, hok, hbk⟩
    obtain ⟨k, hq⟩ := choose_lt each
    refine ⟨some a, len, cap, k, rfl, fun hn => ?_, fun i hi => (hq i hi).2.1, hl, trivial, ?_⟩
    · obtain ⟨b, off, spot⟩ := a
      have h0 := (hq 0 hn).1.1
      have hspot : spot = none := by simpa [Addr.add] using World.cell?_spot h0
      subst hspot
      have ea : ∀ j, (Addr.mk b off none).add j = ⟨b, off + j, none⟩ := fun j => by unfold Addr.add; split <;> simp_all
      refine ⟨b, off, rfl, ?_, fun i hi => ?_⟩
      · rw [ea] at h0
        obtain ⟨cur, e, fr, hb, _⟩ := Sort.cells_of_cell? h0
        exact (Array.getElem?_eq_some_iff.1 hb).1
      · have := (hq i hi).1
        simp only [ea] at this
        exact this
    · have := bulkW_le (D := D) (k := k) len fun i hi => (hq i hi).2.2
      simp only [Rows.uptoBulk]
      omega
end Go.Proofs.YtkflbhkcofmaoaaGreat
