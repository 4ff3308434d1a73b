/-
  The seventeen signs, asked for by the program (strings.ContainsRune) and by the reference (a loop); symbol bytes.
-/
import Derived.Test.YtibeiggedmabkaaDoorTK1
import Derived.BigQuiet
import Derived.Deep.QuietTactic
import Derived.Lib.IndexLaws
namespace Go.Proofs.YtibeiggedmabkaaDoor
open Go.RowKit
set_option linter.unusedVariables false
set_option linter.unusedSimpArgs false

def sgS : ByteArray := ⟨#[126, 33, 64, 36, 37, 94, 38, 42, 95, 45, 43, 61, 60, 62, 46, 63, 47]⟩
theorem sgS_size : sgS.size = 17 := rfl
theorem sgS_byt : ∀ k, k < 17 → byt sgS k = sgL.getD k 0 := by
  intro k hk
  have h : ∀ k : Fin 17, byt sgS k.val = sgL.getD k.val 0 := by decide
  exact h ⟨k, hk⟩
theorem sgN_iff (c : Nat) : sgN c = true ↔ ∃ k, k < sgS.size ∧ byt sgS k = c := by
  unfold sgN
  rw [sgS_size, List.contains_iff_mem, List.mem_iff_getElem]
  constructor
  · rintro ⟨k, hk, e⟩
    have hk' : k < 17 := hk
    refine ⟨k, hk', ?_⟩
    rw [sgS_byt k hk', List.getD_eq_getElem?_getD, List.getElem?_eq_getElem hk]
    exact e
  · rintro ⟨k, hk, e⟩
    have hk' : k < sgL.length := hk
    refine ⟨k, hk', ?_⟩
    rw [sgS_byt k hk, List.getD_eq_getElem?_getD, List.getElem?_eq_getElem hk'] at e
    exact e
theorem sgS_low {k : Nat} (hk : k < 17) : byt sgS k < 128 := by
  have h : ∀ k : Fin 17, byt sgS k.val < 128 := by decide
  exact h ⟨k, hk⟩

set_option maxHeartbeats 1000000 in
theorem within_any (s : ByteArray) (hs : s.size ≤ 140737488355328) (c : Nat) (b : Bool) (hb : b = true ↔ ∃ k, k < s.size ∧ byt s k = c) (w : World) :
    Calls Tryd.prog 83 #[.int .u8 c, .string s] w fun e w' => e = .returned (.bool b) ∧ w' = w := by
  have HB := hideT hb
  clear hb
  go_enter Tryd.func83, Tryd.ntmps83
  go_wp2
  go_loop [5] (fun i => ∃ k : Nat, k ≤ s.size ∧ i = .int .i64 k ∧ ∀ j, j < k → byt s j ≠ c) (fun i => s.size - (intOf i).toNat)
  case atStart => exact ⟨0, Nat.zero_le _, rfl, fun j hj => by omega⟩
  case round =>
    obtain ⟨k, hk, rfl, hj⟩ := hrel
    have HJ := hideT hj
    clear hj
    by_cases hlt : k < s.size
    · have hki : ((k : Int) < (s.size : Int)) := by omega
      have ek := byt_of hlt
      by_cases he : byt s k = c
      · have hx : (((s[k]'hlt).toNat : Int) == (c : Int)) = true := by rw [← ek, he]; simp
        have hv : b = true := HB.out.2 ⟨k, hlt, he⟩
        clear he ek HB
        go_wp2
        go_ret
        try rw [hv]
        exact ⟨rfl, rfl⟩
      · have hx : (((s[k]'hlt).toNat : Int) == (c : Int)) = false := by rw [← ek, beq_eq_false_iff_ne]; omega
        go_wp2
        go_round
        case rel => exact ⟨k + 1, by omega, by go_num, fun j hj => by
          by_cases e : j = k
          · rw [e]; exact he
          · exact HJ.out j (by omega)⟩
        case measure => simp [intOf]; omega
    · have hki : ¬ ((k : Int) < (s.size : Int)) := by omega
      have hv : b = false := by
        cases hc : b with
        | false => rfl
        | true =>
          obtain ⟨j, h1, h2⟩ := HB.out.1 hc
          exact absurd h2 (HJ.out j (by omega))
      clear HB
      go_wp2
      go_ret
      try rw [hv]
      exact ⟨rfl, rfl⟩
theorem within_is (c : Nat) (w : World) : Calls Tryd.prog 83 #[.int .u8 c, .string sgS] w fun e w' => e = .returned (.bool (sgN c)) ∧ w' = w :=
  within_any sgS (by decide) c (sgN c) (sgN_iff c) w

set_option maxHeartbeats 1000000 in
theorem symbolByte_is (r : Nat) (w : World) : Calls Tryd.prog 69 #[.int .u8 r] w fun e w' => e = .returned (.bool (syN r)) ∧ w' = w := by
  have H1 := fun w' => letter_is r w'
  have H2 := fun w' => digit_is r w'
  have H3 := fun w' => within_is r w'
  unfold sgS at H3
  have hv : syN r = (ltN r || (dgN r || sgN r)) := by unfold syN; cases dgN r <;> cases ltN r <;> rfl
  rw [hv]
  clear hv
  generalize ltN r = b1 at H1 ⊢
  generalize dgN r = b2 at H2 ⊢
  generalize sgN r = b3 at H3 ⊢
  go_enter Tryd.func69, Tryd.ntmps69
  go_wp2_with fail
  refine (H1 _).mono ?_
  rintro e w1 ⟨rfl, rfl⟩
  cases b1
  · go_wp2_with fail
    refine (H2 _).mono ?_
    rintro e w1 ⟨rfl, rfl⟩
    cases b2
    · go_wp2_with fail
      refine (H3 _).mono ?_
      rintro e w1 ⟨rfl, rfl⟩
      go_wp2
      go_ret
      exact ⟨rfl, rfl⟩
    · go_wp2
      go_ret
      exact ⟨rfl, rfl⟩
  · go_wp2
    go_ret
    exact ⟨rfl, rfl⟩
end Go.Proofs.YtibeiggedmabkaaDoor
