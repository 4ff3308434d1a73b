/-
  clauses: areLiterals, isTrue; the reference's Literals, Made.
-/
import Derived.Test.YtnjidhoceacenaaCL1
namespace Go.Proofs.Ytnjidhoceacenaa
open Go.RowKit
set_option linter.unusedVariables false
set_option linter.unusedSimpArgs false
set_option maxHeartbeats 2000000 in
set_option maxRecDepth 100000 in
theorem isLiteral_is (x : Int) (w : World) :
    Calls Try.prog 26 #[.int .i64 x] w fun e w' => e = .returned (.bool (isLit x)) ∧ w' = w := by
  unfold isLit
  go_enter Try.func26, Try.ntmps26
  by_cases h0 : x = 0
  · subst h0; go_wp2; go_ret; exact ⟨rfl, rfl⟩
  by_cases h1 : x = -9223372036854775808
  · subst h1; go_wp2; go_ret; exact ⟨rfl, rfl⟩
  go_wp2
  go_ret
  exact ⟨by simp [h0, h1], rfl⟩
set_option maxHeartbeats 2000000 in
set_option maxRecDepth 100000 in
theorem areLit1_is (x : Int) (w : World) :
    Calls Try.prog 25 #[.int .i64 x] w fun e w' => e = .returned (.bool (!isLit x)) ∧ Below w.heap.size w w' := by
  have H := hide' (isLiteral_is x w)
  generalize isLit x = b at H ⊢
  go_enter Try.func25, Try.ntmps25
  go_wp2_with fail
  refine H.out.mono ?_
  rintro e w1 ⟨rfl, rfl⟩
  go_wp2
  go_ret
  exact ⟨rfl, Below.refl _ _⟩
set_option maxHeartbeats 2000000 in
set_option maxRecDepth 100000 in
theorem areLiterals_is (a : Option Addr) (n c : Nat) (g : Nat → Int) (w : World) (h : LitsAt w a n g) :
    Calls Try.prog 11 #[.slice a n c] w fun e w' => e = .returned (.bool (allN isLit g n)) ∧ Below w.heap.size w w' := by
  have H := hide' (containsF_lit a n c g (fun x => !isLit x) w h (fun w' i _ _ => areLit1_is (g i) w'))
  simp only [Bool.not_not] at H
  generalize allN (fun x => isLit x) g n = b at H ⊢
  clear h
  go_enter Try.func11, Try.ntmps11
  go_wp2_with fail
  refine H.out.mono ?_
  rintro e w1 ⟨rfl, b1⟩
  go_wp2
  go_ret
  exact ⟨by simp, b1⟩
set_option maxHeartbeats 2000000 in
set_option maxRecDepth 100000 in
theorem atomOf_is (x : Int) (hx : -9223372036854775808 < x) (hx2 : x ≤ 9223372036854775807) (w : World) :
    Calls Try.prog 44 #[.int .i64 x] w fun e w' => e = .returned (.int .i64 (atm x)) ∧ w' = w := by
  unfold atm
  go_enter Try.func44, Try.ntmps44
  by_cases h0 : x < 0
  · go_wp2
    go_ret
    exact ⟨rfl, rfl⟩
  · go_wp2
    go_ret
    exact ⟨rfl, rfl⟩
set_option maxHeartbeats 2000000 in
set_option maxRecDepth 100000 in
theorem Atom_is (x : Int) (hx : -9223372036854775808 < x) (hx2 : x ≤ 9223372036854775807) (w : World) :
    Calls Try.prog 30 #[.int .i64 x] w fun e w' => e = .returned (.int .i64 (atm x)) ∧ w' = w := by
  unfold atm
  go_enter Try.func30, Try.ntmps30
  by_cases h0 : x < 0
  · go_wp2
    go_ret
    exact ⟨by simp, rfl⟩
  · go_wp2
    go_ret
    exact ⟨rfl, rfl⟩
set_option maxHeartbeats 2000000 in
set_option maxRecDepth 100000 in
theorem Literals_is (a : Option Addr) (n c : Nat) (g : Nat → Int) (w : World) (h : LitsAt w a n g) :
    Calls Try.prog 15 #[.slice a n c] w fun e w' => e = .returned (.bool (allN isLit g n)) ∧ Below w.heap.size w w' := by
  have HL := hide' h
  have hn1 := h.1
  clear h
  go_enter Try.func15, Try.ntmps15
  go_wp2
  go_loopw [3] (fun vi wr => ∃ k : Nat, k ≤ n ∧ vi = .int .i64 k ∧ (∀ i, i < k → isLit (g i) = true) ∧ Below w.heap.size w wr) (fun vi _ => n - (intOf vi).toNat)
  case atStart => exact ⟨0, Nat.zero_le _, rfl, fun i hi => absurd hi (by omega), Below.refl _ _⟩
  case round =>
    obtain ⟨k, hk, rfl, hb, hB⟩ := hrel
    have HB := hide' hb
    clear hb
    by_cases hlt : k < n
    · obtain ⟨b, off, rfl, hc⟩ := HL.out.2.2 (by omega)
      have hck := below_cell hB (hc k hlt)
      clear hc
      have hki : ((k : Int) < (n : Int)) := by omega
      obtain ⟨x, hx⟩ : ∃ x, g k = x := ⟨_, rfl⟩
      rw [hx] at hck
      by_cases h0 : x = 0
      · have HN := hide' (show allN isLit g n = false from allN_false hlt (by rw [hx, h0]; decide))
        clear hx
        subst h0
        go_wp2
        go_ret
        exact ⟨(by rw [HN.out]; try rfl), hB⟩
      have h1 := h0
      clear h0
      by_cases h0 : x = -9223372036854775808
      · have HN := hide' (show allN isLit g n = false from allN_false hlt (by rw [hx, h0]; decide))
        clear hx
        subst h0
        go_wp2
        go_ret
        exact ⟨(by rw [HN.out]; try rfl), hB⟩
      have HN := hide' (show ∀ i, i < k + 1 → isLit (g i) = true from fun i hi => by by_cases e : i = k; (rw [e, hx]; simp [isLit, h0, h1]); exact HB.out i (by omega))
      clear hx
      have e0 : (x == 0) = false := by simp [h1]
      have e1 : (x == -9223372036854775808) = false := by simp [h0]
      clear h0 h1
      go_wp2
      go_roundw
      case rel => exact ⟨k + 1, by omega, by go_simp, HN.out, hB⟩
      case measure => simp only [intOf]; omega
    · have hki : ¬ ((k : Int) < (n : Int)) := by omega
      have HN := hide' (show allN isLit g n = true from allN_true.2 fun i hi => HB.out i (by omega))
      go_wp2
      go_ret
      exact ⟨(by rw [HN.out]; try rfl), hB⟩
end Go.Proofs.Ytnjidhoceacenaa
