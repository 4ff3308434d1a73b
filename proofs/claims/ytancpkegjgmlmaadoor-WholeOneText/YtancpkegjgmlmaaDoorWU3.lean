/-
  Layer 2's Parse, of any text: the sign is cut off; the number.
-/
import Derived.Test.YtancpkegjgmlmaaDoorWU2
namespace Go.Proofs.YtancpkegjgmlmaaDoor
open Go.RowKit
set_option linter.unusedVariables false

set_option maxHeartbeats 1000000 in
theorem cutMinus_yes (s : ByteArray) (w : World) (h : 0 < s.size) (hm : byt s 0 = 45) : Calls Tryd.prog 16 #[.string s, .string ⟨#[45]⟩] w fun e w' => e = .returned (.tuple #[.string (s.extract 1 s.size), .bool true]) ∧ w' = w := by
  have h1 : (⟨#[45]⟩ : ByteArray).size = 1 := rfl
  have hp := pre_eq h
  rw [decide_eq_true hm] at hp
  have hi : (1 : Int) ≤ (s.size : Int) := by omega
  have hi2 : 1 ≤ s.size := h
  have H1 : ∀ w, Calls Tryd.prog 49 #[.string s, .string ⟨#[45]⟩] w fun e w' => e = .returned (.bool true) ∧ w' = w := fun w => by
    go_enter Tryd.func49, Tryd.ntmps49
    go_wp2
    go_ret
    exact ⟨rfl, rfl⟩
  have H2 : ∀ w, Calls Tryd.prog 31 #[.string s, .string ⟨#[45]⟩] w fun e w' => e = .returned (.tuple #[.string (s.extract 1 s.size), .bool true]) ∧ w' = w := fun w => by
    go_enter Tryd.func31, Tryd.ntmps31
    go_wp2_with fail
    refine (H1 _).mono ?_
    rintro e w1 ⟨rfl, rfl⟩
    go_wp2
    go_ret2
    exact ⟨rfl, rfl⟩
  go_enter Tryd.func16, Tryd.ntmps16
  go_wp2_with fail
  refine (H2 _).mono ?_
  rintro e w1 ⟨rfl, rfl⟩
  go_wp2
  go_ret2
  exact ⟨rfl, rfl⟩
set_option maxHeartbeats 1000000 in
theorem cutMinus_no (s : ByteArray) (w : World) (hm : ¬ (0 < s.size ∧ byt s 0 = 45)) : Calls Tryd.prog 16 #[.string s, .string ⟨#[45]⟩] w fun e w' => e = .returned (.tuple #[.string s, .bool false]) ∧ w' = w := by
  have h1 : (⟨#[45]⟩ : ByteArray).size = 1 := rfl
  have H1 : ∀ w, Calls Tryd.prog 49 #[.string s, .string ⟨#[45]⟩] w fun e w' => e = .returned (.bool false) ∧ w' = w := fun w => by
    by_cases h : 0 < s.size
    · have hp := pre_eq h
      rw [decide_eq_false (fun e => hm ⟨h, e⟩)] at hp
      have hi : (1 : Int) ≤ (s.size : Int) := by omega
      have hi2 : 1 ≤ s.size := h
      go_enter Tryd.func49, Tryd.ntmps49
      go_wp2
      go_ret
      exact ⟨rfl, rfl⟩
    · have hi : ¬ ((1 : Int) ≤ (s.size : Int)) := by omega
      have hi2 : decide ((1 : Int) ≤ (s.size : Int)) = false := by rw [decide_eq_false_iff_not]; omega
      have hi3 : (s.size : Int) < 1 := by omega
      have hi4 : ¬ (1 ≤ s.size) := by omega
      have hi5 : s.size = 0 := by omega
      go_enter Tryd.func49, Tryd.ntmps49
      go_wp2
      go_ret
      exact ⟨rfl, rfl⟩
  have H2 : ∀ w, Calls Tryd.prog 31 #[.string s, .string ⟨#[45]⟩] w fun e w' => e = .returned (.tuple #[.string s, .bool false]) ∧ w' = w := fun w => by
    go_enter Tryd.func31, Tryd.ntmps31
    go_wp2_with fail
    refine (H1 _).mono ?_
    rintro e w1 ⟨rfl, rfl⟩
    go_wp2
    go_ret2
    exact ⟨rfl, rfl⟩
  go_enter Tryd.func16, Tryd.ntmps16
  go_wp2_with fail
  refine (H2 _).mono ?_
  rintro e w1 ⟨rfl, rfl⟩
  go_wp2
  go_ret2
  exact ⟨rfl, rfl⟩
end Go.Proofs.YtancpkegjgmlmaaDoor
