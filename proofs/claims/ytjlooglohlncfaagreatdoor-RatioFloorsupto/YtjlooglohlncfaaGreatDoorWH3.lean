/-
  half: 2/4 is 1/2.
-/
import Derived.Test.YtjlooglohlncfaaGreatDoorWH2
import Derived.Test.YtjlooglohlncfaaGreatDoorWQ2
import Derived.Test.YtjlooglohlncfaaGreatDoorWQA
import Derived.Test.YtjlooglohlncfaaGreatDoorW5
namespace Go.Proofs.YtjlooglohlncfaaGreatDoor
open Go.RowKit
set_option linter.unusedVariables false

set_option maxHeartbeats 1000000 in
theorem quotient_24 (w : World) (h : Digits w) : Calls Tryz.prog 71 #[.string ⟨#[50]⟩, .string ⟨#[52]⟩] w fun e w' => ∃ p q, e = .returned (.tuple #[.slice p (ln 2) (ln 2), .slice q (ln 4) (ln 4), .int .i64 0]) ∧ New w w' p 2 (ln 2) ∧ New w w' q 4 (ln 4) := by
  obtain ⟨A2, hA2⟩ : ∃ A2 : Nat, 2 = A2 := ⟨_, rfl⟩
  obtain ⟨A4, hA4⟩ : ∃ A4 : Nat, 4 = A4 := ⟨_, rfl⟩
  have l4 : ln A4 ≤ 2 := by rw [← hA4]; exact ln_le_of_lt (by rw [BB2]; decide)
  have P2 : Calls Tryz.prog 85 #[.string ⟨#[50]⟩, .int .i64 10] w fun e w' => ∃ a, e = .returned (.tuple #[.slice a (ln A2) (ln A2), .int .i64 0]) ∧ New w w' a A2 (ln A2) := by subst hA2; exact Parse_2 w h
  have P4 : ∀ w', Digits w' → Calls Tryz.prog 85 #[.string ⟨#[52]⟩, .int .i64 10] w' fun e w'' => ∃ a, e = .returned (.tuple #[.slice a (ln A4) (ln A4), .int .i64 0]) ∧ New w' w'' a A4 (ln A4) := by subst hA4; exact Parse_4
  have hb : (((bl A4 : Nat) : Int) == 0) = false := by rw [bl_beq, ← hA4]; rfl
  have Q2 := hide' P2
  have Q4 := hide' P4
  rw [show ln 2 = ln A2 by rw [hA2], show ln 4 = ln A4 by rw [hA4]]
  have e2 : ∀ w' q, New w w' q 2 (ln A2) ↔ New w w' q A2 (ln A2) := fun w' q => by rw [← hA2]
  have e4 : ∀ w' q, New w w' q 4 (ln A4) ↔ New w w' q A4 (ln A4) := fun w' q => by rw [← hA4]
  simp only [e2, e4]
  clear P2 P4 hA2 hA4 e2 e4
  go_enter Tryz.func71, Tryz.ntmps71
  go_wp2_with fail
  refine Q2.out.mono ?_
  rintro e w1 ⟨a1, rfl, h1⟩
  go_wp2_with fail
  refine (Q4.out _ (h.below h1.below)).mono ?_
  rintro e w2 ⟨a2, rfl, h2⟩
  have g1 := h1.later h2.below
  have g2 := h2.back h1.below
  go_wp2_with fail
  refine (Bits_any a2 (ln A4) (ln A4) A4 _ (Nat.le_refl _) (by omega) h2.seg).mono ?_
  rintro e w3 ⟨rfl, rfl⟩
  go_wp2
  go_ret3
  exact ⟨a1, a2, rfl, g1, g2⟩

set_option maxHeartbeats 1000000 in
theorem parts_24 (w : World) (h : Digits w) : Calls Tryz.prog 58 #[.string ⟨#[50, 47, 52]⟩] w fun e w' => ∃ p q, e = .returned (.tuple #[.slice p (ln 2) (ln 2), .slice q (ln 4) (ln 4), .int .i64 0]) ∧ New w w' p 2 (ln 2) ∧ New w w' q 4 (ln 4) := by
  have H1 := hide' (cut_24 w)
  have H2 := hide' quotient_24
  go_enter Tryz.func58, Tryz.ntmps58
  go_wp2_with fail
  refine H1.out.mono ?_
  rintro e w1 ⟨rfl, hd⟩
  have b1 := hd.below w.heap.size
  go_wp2_with fail
  refine (H2.out _ (h.below b1)).mono ?_
  rintro e w2 ⟨p, q, rfl, h1, h2⟩
  go_wp2
  go_ret3
  exact ⟨p, q, rfl, h1.back b1, h2.back b1⟩

theorem ln_two : ln 2 = 1 := ln_of_top (by rw [BB_eq]; omega) (by rw [dg0]; omega)
theorem low_24 : Low (sg false 2) ((4 : Nat) : Int) 1 2 := ⟨by decide, by omega, by decide, by decide⟩
set_option maxHeartbeats 1000000 in
set_option maxRecDepth 100000 in
theorem qParse_24 (w : World) (h : Digits w) : Calls Tryz.prog 35 #[.string ⟨#[50, 47, 52]⟩] w fun e w' => ∃ p q, e = .returned (.tuple #[.agg #[.bool false, .slice p 1 1, .slice q 1 1], .int .i64 0]) ∧ New w w' p 1 1 ∧ New w w' q 2 1 := by
  obtain ⟨A2, hA2⟩ : ∃ A2 : Nat, 2 = A2 := ⟨_, rfl⟩
  obtain ⟨A4, hA4⟩ : ∃ A4 : Nat, 4 = A4 := ⟨_, rfl⟩
  have l2 : ln A2 ≤ 2 := by rw [← hA2]; exact ln_le_of_lt (by rw [BB2]; decide)
  have l4 : ln A4 ≤ 2 := by rw [← hA4]; exact ln_le_of_lt (by rw [BB2]; decide)
  have H0 := hide' cutPrefix_24
  have P1 : ∀ w', Digits w' → Calls Tryz.prog 58 #[.string ⟨#[50, 47, 52]⟩] w' fun e w'' => ∃ p q, e = .returned (.tuple #[.slice p (ln A2) (ln A2), .slice q (ln A4) (ln A4), .int .i64 0]) ∧ New w' w'' p A2 (ln A2) ∧ New w' w'' q A4 (ln A4) := by subst hA2 hA4; exact parts_24
  have P2 : ∀ w' p q, Seg w' p A2 (ln A2) → Seg w' q A4 (ln A4) → Calls Tryz.prog 24 #[.agg #[.bool false, .slice p (ln A2) (ln A2), .bool false, .slice q (ln A4) (ln A4)]] w' fun e w'' => ∃ p q, e = .returned (.agg #[.bool false, .slice p 1 1, .slice q 1 1]) ∧ New w' w'' p 1 1 ∧ New w' w'' q 2 1 := fun w' p q k1 k2 => by
    subst hA2 hA4
    have := lowest_is false p (ln 2) (ln 2) 2 q (ln 4) (ln 4) 4 2 1 w' (Nat.le_refl _) (by omega) k1 (Nat.le_refl _) (by omega) k2 low_24
    rw [show ng 1 = false from rfl, show am 1 = 1 from rfl, ln_one, ln_two] at this
    rw [ln_two]
    exact this
  have H1 := hide' P1
  have H2 := hide' P2
  have HD := hide' h
  clear P1 P2 hA2 hA4 h
  go_enter Tryz.func35, Tryz.ntmps35
  go_wp2_with fail
  have r00 : ((w.alloc (.cells #[.bool false, .slice none 0 0, .slice none 0 0] 27))).cell? ⟨w.heap.size, 0, none⟩ = some (.bool false) := by go_simp
  have r01 : ((w.alloc (.cells #[.bool false, .slice none 0 0, .slice none 0 0] 27))).cell? ⟨w.heap.size, 1, none⟩ = some (.slice none 0 0) := by go_simp
  have r02 : ((w.alloc (.cells #[.bool false, .slice none 0 0, .slice none 0 0] 27))).cell? ⟨w.heap.size, 2, none⟩ = some (.slice none 0 0) := by go_simp
  have hB : Below w.heap.size w ((w.alloc (.cells #[.bool false, .slice none 0 0, .slice none 0 0] 27))) := ((Below.refl _ _).alloc (by (try simp only [World.size_alloc]); omega) _)
  have hR0 : Row ((w.alloc (.cells #[.bool false, .slice none 0 0, .slice none 0 0] 27))) (w.heap.size) := by
    have := row_new (w) #[.bool false, .slice none 0 0, .slice none 0 0] 27
    try simp only [World.size_alloc] at this
    exact this
  have hz : ((w.alloc (.cells #[.bool false, .slice none 0 0, .slice none 0 0] 27))).heap.size = w.heap.size + 1 := by simp only [World.size_alloc]
  generalize (w.alloc (.cells #[.bool false, .slice none 0 0, .slice none 0 0] 27)) = W at r00 r01 r02 hR0 hB hz ⊢
  have hBW : Below W.heap.size W W := Below.refl _ _
  refine (H0.out _).mono ?_
  rintro e w1 ⟨rfl, rfl⟩
  go_wp2_with fail
  refine (H1.out _ (HD.out.below (hB.trans (hBW.mono hB.size)))).mono ?_
  rintro e w41 ⟨p41, q41, rfl, hp41, hq41⟩
  have b41 := hp41.below
  replace hp41 := hp41.back hBW
  replace hq41 := hq41.back hBW
  replace hBW := hBW.trans (b41.mono hBW.size)
  replace r00 := below_cell b41 r00
  replace r01 := below_cell b41 r01
  replace r02 := below_cell b41 r02
  replace hR0 := below_row b41 hR0
  go_wp2_with fail
  refine (H2.out _ p41 q41 hp41.seg hq41.seg).mono ?_
  rintro e w42 ⟨p42, q42, rfl, hp42, hq42⟩
  have b42 := hp42.below
  replace hp42 := hp42.back hBW
  replace hq42 := hq42.back hBW
  replace hBW := hBW.trans (b42.mono hBW.size)
  replace r00 := below_cell b42 r00
  replace r01 := below_cell b42 r01
  replace r02 := below_cell b42 r02
  replace hR0 := below_row b42 hR0
  replace hp41 := hp41.later b42
  replace hq41 := hq41.later b42
  have fz0 := fun o => hR0.frozen o
  go_wp2
  all_goals refine bodyPost_ret (v := .tuple #[.agg #[.bool false, .slice p42 1 1, .slice q42 1 1], .int .i64 0]) (by rw [results_ct rfl]; go_simp) rfl ?_
  all_goals exact ⟨p42, q42, rfl, hp42.mid hB (((((Mid.refl _ _ _).set _ _ (by omega) (by omega) _).set _ _ (by omega) (by omega) _).set _ _ (by omega) (by omega) _)), hq42.mid hB (((((Mid.refl _ _ _).set _ _ (by omega) (by omega) _).set _ _ (by omega) (by omega) _).set _ _ (by omega) (by omega) _))⟩

set_option maxHeartbeats 1000000 in
set_option maxRecDepth 100000 in
theorem half_is (w : World) (h : Digits w) : Calls Tryz.prog 17 #[] w fun e w' => e = .returned (.bool true) ∧ Below w.heap.size w w' := by
  have P1 : ∀ w' p q p2 q2, Seg w' p 1 1 → Seg w' q 2 1 → Seg w' p2 1 1 → Seg w' q2 2 1 → Calls Tryz.prog 5 #[.agg #[.bool false, .slice p 1 1, .slice q 1 1], .agg #[.bool false, .slice p2 1 1, .slice q2 1 1]] w' fun e w'' => e = .returned (.bool true) ∧ Below w'.heap.size w' w'' := fun w' p q p2 q2 k1 k2 k3 k4 => by
    have := sameQ_is 1 2 p q p2 q2 w' (by rw [show am 1 = 1 from rfl, ln_one]; omega) (by rw [ln_two]; omega) (by rw [show am 1 = 1 from rfl, ln_one]; exact k1) (by rw [ln_two]; exact k2) (by rw [show am 1 = 1 from rfl, ln_one]; exact k3) (by rw [ln_two]; exact k4)
    rwa [show ng 1 = false from rfl, show am 1 = 1 from rfl, ln_one, ln_two] at this
  have H0 := hide' (qParse_24 w h)
  have H1 := hide' P1
  clear P1 h
  go_enter Tryz.func17, Tryz.ntmps17
  go_wp2_with fail
  refine H0.out.mono ?_
  rintro e w1 ⟨p, q, rfl, hp, hq⟩
  have b1 := below_alloc (w := w1) (.cells #[.bool false, .slice p 1 1, .slice q 1 1] 27)
  have n1 := single_new (w1.alloc (.cells #[.bool false, .slice p 1 1, .slice q 1 1] 27)) 1 46 1 (by omega) rfl
  have n2 := single_new ((w1.alloc (.cells #[.bool false, .slice p 1 1, .slice q 1 1] 27)).alloc (.cells #[.int .u32 1] 46)) 2 46 2 (by omega) rfl
  simp only [World.size_alloc] at n1 n2
  have kp := (hp.seg.later b1).later n1.below
  have kq := (hq.seg.later b1).later n1.below
  have hB := (hp.below.trans (b1.mono hp.below.size)).trans (n1.below.mono (Nat.le_trans hp.below.size b1.size))
  have hB2 := hB.trans (n2.below.mono hB.size)
  have H2 := hide' (H1.out _ p q _ _ (kp.later n2.below) (kq.later n2.below) (n1.seg.later n2.below) n2.seg)
  go_wp2_with fail
  refine H2.out.mono ?_
  rintro e w2 ⟨rfl, b2⟩
  go_wp2
  go_ret
  exact ⟨rfl, hB2.trans (b2.mono hB2.size)⟩
end Go.Proofs.YtjlooglohlncfaaGreatDoor
