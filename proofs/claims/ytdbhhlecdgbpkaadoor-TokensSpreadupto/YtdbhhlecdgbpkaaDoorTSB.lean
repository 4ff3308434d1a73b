/-
  The law's same and awake.
-/
import Derived.Test.YtdbhhlecdgbpkaaDoorTSA
namespace Go.Proofs.YtdbhhlecdgbpkaaDoor
open Go.RowKit
set_option linter.unusedVariables false
set_option linter.unusedSimpArgs false

theorem tokCells_at : ∀ (L : List Tok) (k j : Nat) (hk : k < L.length), j < 6 → (tokCells L)[k * 6 + j]? = (L[k]).cells[j]?
  | [], k, j, hk, _ => absurd hk (by simp)
  | t :: l, 0, j, hk, hj => by
    have e : tokCells (t :: l) = t.cells ++ tokCells l := by simp [tokCells]
    rw [e, Nat.zero_mul, Nat.zero_add, List.getElem?_append_left (by simp [Tok.cells]; omega)]
    rfl
  | t :: l, k + 1, j, hk, hj => by
    have e : tokCells (t :: l) = t.cells ++ tokCells l := by simp [tokCells]
    have e6 : t.cells.length = 6 := rfl
    rw [e, List.getElem?_append_right (by rw [e6]; omega), e6, show (k + 1) * 6 + j - 6 = k * 6 + j by omega, tokCells_at l k j (by simpa using hk) hj]
    rfl
theorem own_tok {w : World} {base g n : Nat} {cap : Nat} {L : List Tok} (h : w.ownsRow base 25 6 (.slice (some ⟨g, 0, none⟩) n cap) n (tokCells L)) (k j : Nat) (hk : k < L.length) (hj : j < 6) : w.cell? ⟨g, k * 6 + j, none⟩ = (L[k]).cells[j]? := by
  obtain ⟨u, hu⟩ : ∃ u, (L[k]).cells[j]? = some u := by
    have : j < (L[k]).cells.length := hj
    exact ⟨_, List.getElem?_eq_getElem this⟩
  have hc := h.cells (g := g) rfl (k * 6 + j) u (by rw [tokCells_at L k j hk hj]; exact hu)
  have e : (⟨g, 0, none⟩ : Addr).add (k * 6 + j) = ⟨g, k * 6 + j, none⟩ := by
    unfold Addr.add
    split
    · simp_all
    · simp
  rw [e] at hc
  rw [hu]
  exact hc
theorem awake_all : ∃ t0 t1 t2 : Tok, allP [40, 120, 41] = ([t0, t1, t2], 0) ∧ t1.t = ⟨#[120]⟩ := by
  refine ⟨_, _, _, rfl, rfl⟩
set_option maxHeartbeats 4000000 in
set_option maxRecDepth 100000 in
theorem awake_is (w : World) (hM : MaxL w) (hmx : mxB < w.heap.size) : Calls Tryd.prog 5 #[] w fun e w' => e = .returned (.bool true) ∧ Below w.heap.size w w' := by
  obtain ⟨t0, t1, t2, ha, ht⟩ := awake_all
  have G := hideT (all_is ⟨#[40, 120, 41]⟩ w (by decide) hM hmx)
  have e : (⟨#[40, 120, 41]⟩ : ByteArray).data.toList = [40, 120, 41] := rfl
  rw [e, ha] at G
  clear e ha
  go_enter Tryd.func5, Tryd.ntmps5
  go_wp2_with fail
  refine G.out.mono ?_
  rintro e w1 ⟨v, z2, z3, z4, z5, rfl, own, b1, _⟩
  clear G
  rcases own.2 with ⟨_, h0⟩ | ⟨g, cap, cur, hv, hg, _⟩
  · exact absurd h0 (by simp)
  subst hv
  have b2 := below_alloc (w := w1) (.cells #[.int .i64 0, .string ⟨#[]⟩, .int .i64 z2, .int .i64 z3, .int .i64 z4, .int .i64 z5] 25)
  have bz := b1.trans (b2.mono b1.size)
  have own2 := own_kp own (Kp.of (X := fun _ => False) b2) (fun _ _ c => c)
  have y := own_tok own2 1 1 (by show 1 < 3; omega) (by decide)
  have y2 : (w1.alloc (.cells #[.int .i64 0, .string ⟨#[]⟩, .int .i64 z2, .int .i64 z3, .int .i64 z4, .int .i64 z5] 25)).cell? ⟨g, 7, none⟩ = some (.string ⟨#[120]⟩) := by rw [← ht]; exact y
  clear y own2 ht
  go_wp2
  go_ret
  exact ⟨rfl, bz⟩

end Go.Proofs.YtdbhhlecdgbpkaaDoor
