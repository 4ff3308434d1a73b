/-
  The laws' own helpers: one, awake.
-/
import Derived.Test.YtancpkegjgmlmaaDoorWI5
namespace Go.Proofs.YtancpkegjgmlmaaDoor
open Go.RowKit
set_option linter.unusedVariables false
theorem ln_am_small {z : Int} (h1 : -9223372036854775808 ≤ z) (h2 : z ≤ 9223372036854775807) : ln (am z) ≤ 2 := ln_le_of_lt (by rw [BB2]; unfold am; omega)

theorem one_is (w : World) :
    Calls Tryd.prog 15 #[] w fun e w' => ∃ ao', e = .returned (.agg #[.bool (ng 1), .slice ao' (ln (am 1)) (ln (am 1))]) ∧ New w w' ao' (am 1) (ln (am 1)) := by
  go_enter Tryd.func15, Tryd.ntmps15
  go_wp2_with fail
  obtain ⟨W, hW⟩ : ∃ W, (w.alloc (.cells #[.bool false, .slice none 0 0] 25)) = W := ⟨_, rfl⟩
  have r00 : W.cell? ⟨w.heap.size, 0, none⟩ = some (.bool false) := by subst hW; go_simp
  have r01 : W.cell? ⟨w.heap.size, 1, none⟩ = some (.slice none 0 0) := by subst hW; go_simp
  have hB : Below w.heap.size w W := by subst hW; exact ((Below.refl _ _).alloc (by (try simp only [World.size_alloc]); omega) _)
  have hR0 : Row W (w.heap.size) := by
    have := row_new (w) #[.bool false, .slice none 0 0] 25
    try simp only [World.size_alloc] at this
    subst hW; exact this
  have hz : W.heap.size = w.heap.size + 1 := by subst hW; simp only [World.size_alloc]
  rw [hW]
  clear hW
  have hBW : Below W.heap.size W W := Below.refl _ _
  refine (wOf_is 1 _ (by omega) (by omega)).mono ?_
  rintro e w1 ⟨a1, rfl, hn⟩
  have b1 := hn.below
  replace hn := hn.back hBW
  replace hBW := hBW.trans (b1.mono hBW.size)
  replace r00 := below_cell b1 r00
  replace r01 := below_cell b1 r01
  replace hR0 := below_row b1 hR0
  have fz0 := fun o => hR0.frozen o
  go_wp2
  refine bodyPost_ret (v := .agg #[.bool (ng 1), .slice a1 (ln (am 1)) (ln (am 1))]) (by rw [results_cell rfl]; go_simp) rfl ?_
  exact ⟨a1, rfl, hn.ret hB (by omega) (by omega) _ _⟩

set_option maxHeartbeats 1000000 in
theorem awake_is (w : World) :
    Calls Tryd.prog 14 #[] w fun e w' => e = .returned (.bool true) ∧ Below w.heap.size w w' := by
  have l2 := ln_am_small (z := 2) (by omega) (by omega)
  have l1 := ln_am_small (z := 1) (by omega) (by omega)
  have l0 := ln_am_small (z := 0) (by omega) (by omega)
  have K1 : ∀ w' ao ao2, Seg w' ao (am 2) (ln (am 2)) → Seg w' ao2 (am 1) (ln (am 1)) → Calls Tryd.prog 13 #[.agg #[.bool (ng 2), .slice ao (ln (am 2)) (ln (am 2))], .agg #[.bool (ng 1), .slice ao2 (ln (am 1)) (ln (am 1))]] w' fun e w'' => e = .returned (.int .i64 1) ∧ Below w'.heap.size w' w'' :=
    fun w' ao ao2 h1 h2 => by
      have := wCmp_is (ng 2) ao _ _ (am 2) (ng 1) ao2 _ _ (am 1) w' (Nat.le_refl _) (by omega) h1 (Nat.le_refl _) (by omega) h2
      rwa [sg_na, sg_na, show sgn (2 - 1) = 1 from rfl] at this
  have K2 : ∀ w' ao, Seg w' ao (am 1) (ln (am 1)) → Calls Tryd.prog 23 #[.agg #[.bool (ng 1), .slice ao (ln (am 1)) (ln (am 1))]] w' fun e w'' => e = .returned (.int .i64 1) ∧ Below w'.heap.size w' w'' :=
    fun w' ao h1 => wSign_is (ng 1) ao _ _ (am 1) 1 w' (Nat.le_refl _) (by omega) h1 (sg_na 1)
  have K3 : ∀ w' ao, Seg w' ao (am 0) (ln (am 0)) → Calls Tryd.prog 23 #[.agg #[.bool (ng 0), .slice ao (ln (am 0)) (ln (am 0))]] w' fun e w'' => e = .returned (.int .i64 0) ∧ Below w'.heap.size w' w'' :=
    fun w' ao h1 => wSign_is (ng 0) ao _ _ (am 0) 0 w' (Nat.le_refl _) (by omega) h1 (sg_na 0)
  have HK1 := hide' K1
  have HK2 := hide' K2
  have HK3 := hide' K3
  clear K1 K2 K3
  go_enter Tryd.func14, Tryd.ntmps14
  go_wp2_with fail
  refine (wOf_is 2 _ (by omega) (by omega)).mono ?_
  rintro e w1 ⟨a1, rfl, h1⟩
  go_wp2_with fail
  refine (one_is _).mono ?_
  rintro e w2 ⟨a2, rfl, h2⟩
  go_wp2_with fail
  refine (HK1.out _ a1 a2 (h1.later h2.below).seg h2.seg).mono ?_
  rintro e w3 ⟨rfl, b3⟩
  have B3 := (h1.below.trans (h2.below.mono h1.below.size))
  replace B3 := B3.trans (b3.mono B3.size)
  clear h1 h2 b3
  go_wp2_with fail
  refine (one_is _).mono ?_
  rintro e w4 ⟨a4, rfl, h4⟩
  go_wp2_with fail
  refine (HK2.out _ a4 h4.seg).mono ?_
  rintro e w5 ⟨rfl, b5⟩
  have B5 := B3.trans (h4.below.mono B3.size)
  replace B5 := B5.trans (b5.mono B5.size)
  clear h4 b5 B3
  go_wp2_with fail
  refine (wOf_is 0 _ (by omega) (by omega)).mono ?_
  rintro e w6 ⟨a6, rfl, h6⟩
  go_wp2_with fail
  refine (HK3.out _ a6 h6.seg).mono ?_
  rintro e w7 ⟨rfl, b7⟩
  have B7 := B5.trans (h6.below.mono B5.size)
  replace B7 := B7.trans (b7.mono B7.size)
  go_wp2
  go_ret
  exact ⟨rfl, B7⟩
end Go.Proofs.YtancpkegjgmlmaaDoor
