/-
  The law's same and awake.
-/
import Derived.Test.YtmgecifbimhjkaaDoorTSA
namespace Go.Proofs.YtmgecifbimhjkaaDoor
open Go.RowKit
set_option linter.unusedVariables false
set_option linter.unusedSimpArgs false

theorem tokCells_at : ∀ (L : List Tok) (k j : Nat) (hk : k < L.length), j < 6 → (tokCells L)[k * 6 + j]? = (L[k]).cells[j]?
  | [], k, j, hk, _ => absurd hk (by simp)
  | t :: l, 0, j, hk, hj => by
    have e : tokCells (t :: l) = t.cells ++ tokCells l := by simp [tokCells]
    rw [e, Nat.zero_mul, Nat.zero_add, List.getElem?_append_left (by simp [Tok.cells]; omega)]
    rfl
  | t :: l, k + 1, j, hk, hj => by
    have e : tokCells (t :: l) = t.cells ++ tokCells l := by simp [tokCells]
    have e6 : t.cells.length = 6 := rfl
    rw [e, List.getElem?_append_right (by rw [e6]; omega), e6, show (k + 1) * 6 + j - 6 = k * 6 + j by omega, tokCells_at l k j (by simpa using hk) hj]
    rfl
theorem own_tok {w : World} {base g n : Nat} {cap : Nat} {L : List Tok} (h : w.ownsRow base 23 6 (.slice (some ⟨g, 0, none⟩) n cap) n (tokCells L)) (k j : Nat) (hk : k < L.length) (hj : j < 6) : w.cell? ⟨g, k * 6 + j, none⟩ = (L[k]).cells[j]? := by
  obtain ⟨u, hu⟩ : ∃ u, (L[k]).cells[j]? = some u := by
    have : j < (L[k]).cells.length := hj
    exact ⟨_, List.getElem?_eq_getElem this⟩
  have hc := h.cells (g := g) rfl (k * 6 + j) u (by rw [tokCells_at L k j hk hj]; exact hu)
  have e : (⟨g, 0, none⟩ : Addr).add (k * 6 + j) = ⟨g, k * 6 + j, none⟩ := by
    unfold Addr.add
    split
    · simp_all
    · simp
  rw [e] at hc
  rw [hu]
  exact hc
set_option maxHeartbeats 4000000 in
set_option maxRecDepth 100000 in
theorem same_is (b1 b2 : Nat) (v1 v2 : Value) (L : List Tok) (w : World) (h1 : w.ownsRow b1 23 6 v1 L.length (tokCells L)) (h2 : w.ownsRow b2 23 6 v2 L.length (tokCells L)) (hl : L.length ≤ 100000000000) : Calls Tryd.prog 16 #[v1, v2] w fun e w' => e = .returned (.bool true) ∧ Below w.heap.size w w' := by
  obtain ⟨a1, c1, e1⟩ := own_sl h1
  obtain ⟨a2, c2, e2⟩ := own_sl h2
  subst e1
  subst e2
  have H1 := hideT h1
  have H2 := hideT h2
  clear h1 h2
  go_enter Tryd.func16, Tryd.ntmps16
  go_wp2_with fail
  go_loopw [5] (fun i wr => ∃ k : Nat, k ≤ L.length ∧ i = .int .i64 k ∧ Below w.heap.size w wr) (fun i _ => L.length - (intOf i).toNat)
  case atStart => exact ⟨0, Nat.zero_le _, rfl, Below.refl _ _⟩
  case round =>
    obtain ⟨k, hk, rfl, hB⟩ := hrel
    have K1 := own_kp H1.out (Kp.of (X := fun _ => False) hB) (fun _ _ c => c)
    have K2 := own_kp H2.out (Kp.of (X := fun _ => False) hB) (fun _ _ c => c)
    have H1 := hideT K1
    have H2 := hideT K2
    clear K1 K2
    by_cases hlt : k < L.length
    · have hki : ((k : Int) < (L.length : Int)) := by omega
      rcases H1.out.2 with ⟨_, h0⟩ | ⟨g1, p1, r1, hv1, _⟩
      · omega
      rcases H2.out.2 with ⟨_, h0⟩ | ⟨g2, p2, r2, hv2, _⟩
      · omega
      injection hv1 with hv1 _ hc1
      injection hv2 with hv2 _ hc2
      subst hv1
      subst hv2
      subst hc1
      subst hc2
      have z10 : wr.cell? ⟨g1, k * 6 + 0, none⟩ = _ := own_tok H1.out k 0 hlt (by decide)
      have z20 : wr.cell? ⟨g2, k * 6 + 0, none⟩ = _ := own_tok H2.out k 0 hlt (by decide)
      have z11 : wr.cell? ⟨g1, k * 6 + 1, none⟩ = _ := own_tok H1.out k 1 hlt (by decide)
      have z21 : wr.cell? ⟨g2, k * 6 + 1, none⟩ = _ := own_tok H2.out k 1 hlt (by decide)
      have z12 : wr.cell? ⟨g1, k * 6 + 2, none⟩ = _ := own_tok H1.out k 2 hlt (by decide)
      have z22 : wr.cell? ⟨g2, k * 6 + 2, none⟩ = _ := own_tok H2.out k 2 hlt (by decide)
      have z13 : wr.cell? ⟨g1, k * 6 + 3, none⟩ = _ := own_tok H1.out k 3 hlt (by decide)
      have z23 : wr.cell? ⟨g2, k * 6 + 3, none⟩ = _ := own_tok H2.out k 3 hlt (by decide)
      have z14 : wr.cell? ⟨g1, k * 6 + 4, none⟩ = _ := own_tok H1.out k 4 hlt (by decide)
      have z24 : wr.cell? ⟨g2, k * 6 + 4, none⟩ = _ := own_tok H2.out k 4 hlt (by decide)
      have z15 : wr.cell? ⟨g1, k * 6 + 5, none⟩ = _ := own_tok H1.out k 5 hlt (by decide)
      have z25 : wr.cell? ⟨g2, k * 6 + 5, none⟩ = _ := own_tok H2.out k 5 hlt (by decide)
      obtain ⟨t, ht⟩ : ∃ t, L[k] = t := ⟨_, rfl⟩
      rw [ht] at z10 z20 z11 z21 z12 z22 z13 z23 z14 z24 z15 z25
      simp only [Tok.cells, List.getElem?_cons_zero, List.getElem?_cons_succ] at z10 z20 z11 z21 z12 z22 z13 z23 z14 z24 z15 z25
      clear ht
      rw [Nat.add_zero] at z10 z20
      go_wp2_with fail
      go_quiet (fail)
      go_wp2
      go_roundw
      case rel => exact ⟨k + 1, by omega, by go_num, hB.trans ⟨rfl, rfl, rfl, Nat.le_refl _, fun _ _ => rfl⟩⟩
      case measure => simp [intOf]; omega
    · have hki : ¬ ((k : Int) < (L.length : Int)) := by omega
      go_wp2
      go_ret
      exact ⟨rfl, hB⟩

theorem awake_all : ∃ t0 t1 t2 : Tok, allP [40, 120, 41] = ([t0, t1, t2], 0) ∧ t1.t = ⟨#[120]⟩ := by
  refine ⟨_, _, _, rfl, rfl⟩
set_option maxHeartbeats 4000000 in
set_option maxRecDepth 100000 in
theorem awake_is (w : World) (hM : MaxL w) (hmx : mxB < w.heap.size) : Calls Tryd.prog 10 #[] w fun e w' => e = .returned (.bool true) ∧ Below w.heap.size w w' := by
  obtain ⟨t0, t1, t2, ha, ht⟩ := awake_all
  have G := hideT (all_is ⟨#[40, 120, 41]⟩ w (by decide) hM hmx)
  have e : (⟨#[40, 120, 41]⟩ : ByteArray).data.toList = [40, 120, 41] := rfl
  rw [e, ha] at G
  clear e ha
  go_enter Tryd.func10, Tryd.ntmps10
  go_wp2_with fail
  refine G.out.mono ?_
  rintro e w1 ⟨v, z2, z3, z4, z5, rfl, own, b1, _⟩
  clear G
  rcases own.2 with ⟨_, h0⟩ | ⟨g, cap, cur, hv, hg, _⟩
  · exact absurd h0 (by simp)
  subst hv
  have b2 := below_alloc (w := w1) (.cells #[.int .i64 0, .string ⟨#[]⟩, .int .i64 z2, .int .i64 z3, .int .i64 z4, .int .i64 z5] 23)
  have bz := b1.trans (b2.mono b1.size)
  have own2 := own_kp own (Kp.of (X := fun _ => False) b2) (fun _ _ c => c)
  have y := own_tok own2 1 1 (by show 1 < 3; omega) (by decide)
  have y2 : (w1.alloc (.cells #[.int .i64 0, .string ⟨#[]⟩, .int .i64 z2, .int .i64 z3, .int .i64 z4, .int .i64 z5] 23)).cell? ⟨g, 7, none⟩ = some (.string ⟨#[120]⟩) := by rw [← ht]; exact y
  clear y own2 ht
  go_wp2
  go_ret
  exact ⟨rfl, bz⟩

end Go.Proofs.YtmgecifbimhjkaaDoor
