/-
  From what a law's row hands over (a list of api.Int that came in) to the walks' words.
-/
import Derived.Test.YtabchggnalbbcaaOpenQ
import Derived.Test.YtabchggnalbbcaaWJ8
import Derived.Deep.Slices
namespace Go.Proofs.Ytabchggnalbbcaa
open Go.ChangeShapes Go.WideShapes Go.ChangeAt Go.RowKit Go.Deep
set_option linter.unusedVariables false

theorem bulkAll_appendJ {H : Type} : ∀ (l m : List (DataW H)), Rows.uptoBulkAll (l ++ m) = Rows.uptoBulkAll l + Rows.uptoBulkAll m
  | [], m => by simp [Rows.uptoBulkAll]
  | d :: l, m => by simp only [List.cons_append, Rows.uptoBulkAll, bulkAll_appendJ l m]; omega
theorem wsum_leJ {H : Type} {D : Nat → DataW H} {q : Nat → IV} : ∀ (n : Nat), (∀ i, i < n → (q i).n + 1 ≤ Rows.uptoBulk (D i)) → wsum (upq q n) ≤ Rows.uptoBulkAll ((List.range n).map D)
  | 0, _ => by simp [wsum, upq]
  | n + 1, h => by
    have h1 := wsum_leJ n fun i hi => h i (by omega)
    have h2 := h n (by omega)
    rw [List.range_succ, List.map_append, bulkAll_appendJ, upq_succ, wsum_snoc]
    simp only [List.map, Rows.uptoBulkAll]
    omega
theorem weightsAll_memJ {H : Type} {P : Program} {t : TypeId} {f : Nat → Bool} : ∀ {l : List (DataW H)} {d : DataW H}, (DataW.weightsAll P t l).all f = true → d ∈ l → (d.weights P t).all f = true
  | [], _, _, h => by simp at h
  | c :: l, d, h, hm => by
    simp only [DataW.weightsAll, List.all_append, Bool.and_eq_true] at h
    rcases List.mem_cons.1 hm with rfl | hm
    · exact h.1
    · exact weightsAll_memJ h.2 hm
theorem bytes_IntJ : Try.prog.bytesOf 26 = 32 := by kernel_rfl

set_option maxRecDepth 100000 in
theorem open_IntV {H : Type} {enc : TypeId × Value → H} {W : World} {cs : List Value} {d : DataW H} {p : List MemPlace} {fuel : Nat}
    (hf : DataW.trod enc Try.prog W 0 (fun _ => true) true fuel 22 cs = some (d, p))
    (hsz : (d.weights Try.prog 22).all (· ≤ reachBytes) = true) :
    ∃ a len cap q, cs = [.slice a len cap] ∧ IntsAt W a len q ∧ (∀ i, i < len → Seg W (q i).a (q i).X (q i).n ∧ (q i).n ≤ (q i).c) ∧ len ≤ cap ∧ len * 32 ≤ reachBytes ∧ wsum (upq q len) + 1 ≤ Rows.uptoBulk d := by
  haveI : Inhabited IV := ⟨⟨false, none, 0, 0, 0⟩⟩
  rcases open_slice Try.underlying22 hf with ⟨rfl, hx⟩ | ⟨a, len, cap, m, n, D, Pl, rfl, hb, hl, hm, hmm, hx, hel⟩
  · simp only [Prod.mk.injEq] at hx
    obtain ⟨rfl, rfl⟩ := hx
    exact ⟨none, 0, 0, default, rfl, fun h => absurd h (by omega), fun i hi => absurd hi (by omega), Nat.le_refl _, by simp [reachBytes], by simp [wsum, upq, Rows.uptoBulk]⟩
  · simp only [Prod.mk.injEq] at hx
    obtain ⟨rfl, rfl⟩ := hx
    have hu := Try.underlying22
    simp only [DataW.weights, hu] at hsz
    simp only [List.all_cons, List.all_append, Bool.and_eq_true, decide_eq_true_eq, bytes_IntJ, List.length_map, List.length_range] at hsz
    obtain ⟨hs0, hs1, _⟩ := hsz
    simp only [if_true] at hmm
    have each : ∀ i, i < len → ∃ q : IV, (W.cell? (a.add (i * 2)) = some (.bool q.s) ∧ W.cell? (a.add (i * 2 + 1)) = some (.slice q.a q.n q.c)) ∧ (Seg W q.a q.X q.n ∧ q.n ≤ q.c) ∧ q.n + 1 ≤ Rows.uptoBulk (D i) := by
      intro i hi
      obtain ⟨cs', h1, h2⟩ := hel i (by omega)
      rw [cells_Int] at h1
      obtain ⟨_, hlen, hcell⟩ := World.cells?_some h1
      match cs', hlen with
      | [c0, c1], _ =>
        obtain ⟨s, a9, n9, c9, X, rfl, rfl, hS, hc, _, hu0⟩ := open_Int2 ⟨_, h2⟩ (weightsAll_memJ hs1 (List.mem_map.2 ⟨i, List.mem_range.2 hi, rfl⟩))
        have e0 := hcell 0 (by omega)
        have e1 := hcell 1 (by omega)
        rw [add_add] at e0 e1
        exact ⟨⟨s, a9, n9, c9, X⟩, ⟨by simpa using e0, by simpa using e1⟩, ⟨hS, hc⟩, hu0⟩
    obtain ⟨q, hq⟩ := choose_lt each
    refine ⟨some a, len, cap, q, rfl, fun hn => ?_, fun i hi => (hq i hi).2.1, hl, by omega, ?_⟩
    · obtain ⟨b, off, spot⟩ := a
      have h0 := (hq 0 hn).1.1
      have hspot : spot = none := by simpa [Addr.add] using World.cell?_spot h0
      subst hspot
      have ea : ∀ j, (Addr.mk b off none).add j = ⟨b, off + j, none⟩ := fun j => by unfold Addr.add; split <;> simp_all
      refine ⟨b, off, rfl, ?_, fun i hi => ?_⟩
      · rw [ea] at h0
        obtain ⟨cur, e, fr, hb, _⟩ := Sort.cells_of_cell? h0
        exact (Array.getElem?_eq_some_iff.1 hb).1
      · have := (hq i hi).1
        simp only [ea] at this
        exact this
    · have := wsum_leJ (D := D) (q := q) len fun i hi => (hq i hi).2.2
      simp only [Rows.uptoBulk]
      omega
end Go.Proofs.Ytabchggnalbbcaa
