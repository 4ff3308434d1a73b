/-
  UnitsMakes: what the law asks of a new store, and of the reference.
-/
import Derived.Test.YtlaldooonfjcaaaUB3
namespace Go.Proofs.Ytlaldooonfjcaaa
open Go.RowKit
set_option linter.unusedVariables false
set_option linter.unusedSimpArgs false
set_option maxHeartbeats 2000000 in
set_option maxRecDepth 100000 in
theorem settle0 (b c : Nat) (a : Option Addr) (w : World) (c5 : w.cell? ⟨b, 5, none⟩ = some (.slice a 0 c)) :
    Calls Try.prog 21 #[.pointer (some ⟨b, 0, none⟩)] w fun e w' => e = .returned (.int .i64 (-1)) ∧ Below w.heap.size w w' := by
  go_enter Try.func21, Try.ntmps21
  go_wp2
  go_loopw [3] (fun vi wr => vi = .int .i64 (-1) ∧ wr = w) (fun _ _ => 0)
  case atStart => exact ⟨rfl, rfl⟩
  case round =>
    obtain ⟨rfl, rfl⟩ := hrel
    go_wp2
    go_ret
    exact ⟨rfl, Below.refl _ _⟩
set_option maxHeartbeats 2000000 in
set_option maxRecDepth 100000 in
theorem propagate0 (b g n c d p : Nat) (a a2 : Option Addr) (w : World) (c0 : w.cell? ⟨b, 0, none⟩ = some (.slice (some ⟨g, 0, none⟩) (n + 1) c)) (c1 : w.cell? ⟨b, 1, none⟩ = some (.slice a 0 d)) (c4 : w.cell? ⟨b, 4, none⟩ = some (.int .i64 0)) (c5 : w.cell? ⟨b, 5, none⟩ = some (.slice a2 0 p)) :
    Calls Try.prog 10 #[.pointer (some ⟨b, 0, none⟩)] w fun e w' => e = .returned (.int .i64 (-1)) ∧ Below w.heap.size w w' := by
  have G := hide' (isNoneM b g n c w c0)
  have G2 := hide' (fun w' (hb : Below w.heap.size w w') => settle0 b p a2 w' (below_cell hb c5))
  go_enter Try.func10, Try.ntmps10
  go_wp2_with fail
  refine G.out.mono ?_
  rintro e w1 ⟨rfl, b1⟩
  replace c1 := below_cell b1 c1
  replace c4 := below_cell b1 c4
  go_wp2_with fail
  go_loopw [] (fun wr => wr = w1) (fun _ => 0)
  case atStart => exact rfl
  case round =>
    subst hrel
    go_wp2_with fail
    refine (G2.out _ b1).mono ?_
    rintro e w2 ⟨rfl, b2⟩
    replace c1 := below_cell b2 c1
    replace c4 := below_cell b2 c4
    have hB := b1.trans (b2.mono b1.size)
    go_wp2_with fail
    go_quiet (fail)
    go_wp2
    go_ret
    exact ⟨rfl, below_drewN hB⟩
set_option maxHeartbeats 2000000 in
set_option maxRecDepth 100000 in
theorem rload_neg (x : Int) (h0 : x < 0) (w : World) :
    Calls Try.prog 6 #[.int .i64 x, .slice none 0 0, .slice none 0 0] w fun e w' => e = .returned (.int .i64 1) ∧ Below w.heap.size w w' := by
  go_enter Try.func6, Try.ntmps6
  go_wp2
  go_ret
  exact ⟨rfl, Below.refl _ _⟩
set_option maxHeartbeats 2000000 in
set_option maxRecDepth 100000 in
theorem rload_full (x : Int) (h0 : ¬ x < 0) (h1 : x > 262144) (w : World) :
    Calls Try.prog 6 #[.int .i64 x, .slice none 0 0, .slice none 0 0] w fun e w' => e = .returned (.int .i64 2) ∧ Below w.heap.size w w' := by
  go_enter Try.func6, Try.ntmps6
  go_wp2
  go_ret
  exact ⟨rfl, Below.refl _ _⟩
set_option maxHeartbeats 2000000 in
set_option maxRecDepth 100000 in
theorem rmay0 (x : Int) (w : World) :
    Calls Try.prog 19 #[.int .i64 x, .slice none 0 0, .slice none 0 0] w fun e w' => e = .returned (.bool true) ∧ Below w.heap.size w w' := by
  go_enter Try.func19, Try.ntmps19
  go_wp2
  go_loopw [7] (fun vi wr => vi = .int .i64 0 ∧ wr = w) (fun _ _ => 0)
  case atStart => exact ⟨rfl, rfl⟩
  case round =>
    obtain ⟨rfl, rfl⟩ := hrel
    go_wp2
    go_ret
    exact ⟨rfl, Below.refl _ _⟩
set_option maxHeartbeats 2000000 in
set_option maxRecDepth 100000 in
theorem rload_ok (x : Int) (h0 : ¬ x < 0) (h1 : ¬ x > 262144) (w : World) :
    Calls Try.prog 6 #[.int .i64 x, .slice none 0 0, .slice none 0 0] w fun e w' => e = .returned (.int .i64 0) ∧ Below w.heap.size w w' := by
  have G := hide' (rmay0 x w)
  go_enter Try.func6, Try.ntmps6
  go_wp2
  go_loopw [7] (fun vi wr => vi = .int .i64 0 ∧ wr = w) (fun _ _ => 0)
  case atStart => exact ⟨rfl, rfl⟩
  case round =>
    obtain ⟨rfl, rfl⟩ := hrel
    go_wp2_with fail
    refine G.out.mono ?_
    rintro e w1 ⟨rfl, b1⟩
    go_wp2
    go_ret
    exact ⟨rfl, b1⟩
set_option maxHeartbeats 2000000 in
set_option maxRecDepth 100000 in
theorem walk_neg (x : Int) (h0 : x < 0) (w : World) :
    Calls Try.prog 3 #[.int .i64 x] w fun e w' => e = .returned (.bool true) ∧ Below w.heap.size w w' := by
  go_enter Try.func3, Try.ntmps3
  go_wp2_with fail
  refine (new_neg x (by omega) _).mono ?_
  rintro e w1 ⟨rfl, b1⟩
  go_wp2_with fail
  refine (rload_neg x (by omega) _).mono ?_
  rintro e w2 ⟨rfl, b2⟩
  go_wp2
  go_ret
  exact ⟨rfl, b1.trans (b2.mono b1.size)⟩
set_option maxHeartbeats 2000000 in
set_option maxRecDepth 100000 in
theorem walk_big (x : Int) (h0 : ¬ x < 0) (h1 : x > 262144) (w : World) :
    Calls Try.prog 3 #[.int .i64 x] w fun e w' => e = .returned (.bool true) ∧ Below w.heap.size w w' := by
  go_enter Try.func3, Try.ntmps3
  go_wp2_with fail
  refine (new_full x (by omega) (by omega) _).mono ?_
  rintro e w1 ⟨rfl, b1⟩
  go_wp2_with fail
  refine (rload_full x (by omega) (by omega) _).mono ?_
  rintro e w2 ⟨rfl, b2⟩
  go_wp2
  go_ret
  exact ⟨rfl, b1.trans (b2.mono b1.size)⟩
set_option maxHeartbeats 2000000 in
set_option maxRecDepth 100000 in
theorem walk_full (n : Nat) (hn : n = 262144) (w : World) :
    Calls Try.prog 3 #[.int .i64 n] w fun e w' => e = .returned (.bool true) ∧ Below w.heap.size w w' := by
  replace hn := hide' hn
  have hn2 : n ≤ 262144 := by have := hn.out; omega
  go_enter Try.func3, Try.ntmps3
  go_wp2_with fail
  refine (new_ok n (by omega) _).mono ?_
  rintro e w1 ⟨b, ow, V, rfl, h, b1, hb, ho⟩
  go_wp2_with fail
  refine (rload_ok (n : Int) (by omega) (by omega) _).mono ?_
  rintro e w2 ⟨rfl, b2⟩
  replace h := h.later b2
  have hB := b1.trans (b2.mono b1.size)
  clear b1 b2
  have hn1 : (us0 n).tr.length = n + 1 := by simp [us0]
  obtain ⟨g, hg⟩ := h.rtr.got (by omega)
  have c0 := h.cells.2.2.1
  rw [SlV.val_some hg, hn1] at c0
  clear hn1
  generalize V.tr.c = c at c0
  have G := hide' (fun w' (hb : Below w2.heap.size w2 w') => growM_full b g n c w' (below_cell hb c0) (by omega) (by have := hn.out; omega))
  have G2 := hide' (fun w' (hb : Below w2.heap.size w2 w') => atomsM b g n c w' (below_cell hb c0) (by omega))
  have i1 : ((n : Int) == 262144) = true := by have := hn.out; simp; omega
  replace i1 := hide' i1
  go_wp2_with fail
  refine (G.out _ (Below.refl _ _)).mono ?_
  rintro e w3 ⟨rfl, b3⟩
  have e1 := i1.out
  go_wp2_with fail
  refine (G2.out _ b3).mono ?_
  rintro e w4 ⟨rfl, b4⟩
  go_wp2
  go_ret
  exact ⟨rfl, hB.trans ((b3.trans (b4.mono b3.size)).mono hB.size)⟩
set_option maxHeartbeats 2000000 in
set_option maxRecDepth 100000 in
theorem walk_is (n : Nat) (hn : n < 262144) (w : World) :
    Calls Try.prog 3 #[.int .i64 n] w fun e w' => e = .returned (.bool true) ∧ Below w.heap.size w w' := by
  have hB0 : True := trivial
  go_enter Try.func3, Try.ntmps3
  go_wp2_with fail
  refine (new_ok n (by omega) _).mono ?_
  rintro e w1 ⟨b, ow, V, rfl, h, b1, hb, ho⟩
  go_wp2_with fail
  refine (rload_ok (n : Int) (by omega) (by omega) _).mono ?_
  rintro e w2 ⟨rfl, b2⟩
  replace h := h.later b2
  have hB := b1.trans (b2.mono b1.size)
  clear b1 b2
  have hn1 : (us0 n).tr.length = n + 1 := by simp [us0]
  have G := hide' (grow_is ow b V (us0 n) n w2 h hn1 hn (by simp [us0]; omega))
  have i1 : ((n : Int) == 262144) = false := by simp; omega
  clear h hn1
  go_wp2_with fail
  refine G.out.mono ?_
  rintro e w3 ⟨ow', V', rfl, h, st⟩
  have hB3 := hB.trans (st.below ho hB.size)
  clear st G hB
  have hl : ((us0 n).tr ++ [0]).length = n + 1 + 1 := by simp [us0]
  obtain ⟨g, hg⟩ := h.rtr.got (by show 0 < ((us0 n).tr ++ [0]).length; omega)
  have c0 := h.cells.2.2.1
  rw [SlV.val_some hg, show ({ (us0 n) with tr := (us0 n).tr ++ [0], ws := (us0 n).ws ++ [[], []] } : US).tr.length = n + 1 + 1 from hl] at c0
  have c1 : w3.cell? ⟨b, 1, none⟩ = some (.slice V'.mks.at' 0 V'.mks.c) := h.cells.2.2.2.1
  have c4 : w3.cell? ⟨b, 4, none⟩ = some (.int .i64 0) := h.cells.2.2.2.2.2.2.1
  have c5 : w3.cell? ⟨b, 5, none⟩ = some (.slice V'.fr.at' 0 V'.fr.c) := h.cells.2.2.2.2.2.2.2.1
  generalize V'.tr.c = c at c0
  generalize V'.mks.at' = a1 at c1
  generalize V'.mks.c = d1 at c1
  generalize V'.fr.at' = a5 at c5
  generalize V'.fr.c = d5 at c5
  clear h hg hl
  have G1 := hide' (fun w' (hb : Below w3.heap.size w3 w') => atomsM b g (n + 1) c w' (below_cell hb c0) (by omega))
  have G2 := hide' (fun w' (hb : Below w3.heap.size w3 w') => levelM0 b g (n + 1) c a1 d1 w' (below_cell hb c0) (below_cell hb c1))
  have G3 := hide' (fun w' (hb : Below w3.heap.size w3 w') => propagate0 b g (n + 1) c d1 d5 a1 a5 w' (below_cell hb c0) (below_cell hb c1) (below_cell hb c4) (below_cell hb c5))
  clear c0 c1 c4 c5
  go_wp2_with fail
  refine (G1.out _ (Below.refl _ _)).mono ?_
  rintro e w4 ⟨rfl, b4⟩
  go_wp2_with fail
  refine (G2.out _ b4).mono ?_
  rintro e w5 ⟨rfl, b5⟩
  have b45 := b4.trans (b5.mono b4.size)
  go_wp2_with fail
  refine (G3.out _ b45).mono ?_
  rintro e w6 ⟨rfl, b6⟩
  have b46 := b45.trans (b6.mono b45.size)
  go_wp2
  go_ret
  exact ⟨rfl, hB3.trans (b46.mono hB3.size)⟩
end Go.Proofs.Ytlaldooonfjcaaa
