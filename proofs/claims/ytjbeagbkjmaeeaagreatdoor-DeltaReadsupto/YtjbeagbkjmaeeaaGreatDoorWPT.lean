/-
  power: 10 to the k-th, out of strings.Repeat's contract.
-/
import Derived.Test.YtjbeagbkjmaeeaaGreatDoorWPS
namespace Go.Proofs.YtjbeagbkjmaeeaaGreatDoor
open Go.RowKit
set_option linter.unusedVariables false
set_option linter.unusedSimpArgs false

theorem tvr_zero {b : Nat} {f : Nat → Nat} {i : Nat} : ∀ {k : Nat}, (∀ n, n < k → f (i + n) = 0) → tvr b f i k = 0
  | 0, _ => rfl
  | k + 1, h => by
    rw [tvr_split b f i k 1, tvr_zero (k := k) fun n hn => h n (by omega)]
    simp only [tvr, Nat.add_zero, Nat.zero_mul, Nat.zero_add]
    exact h k (by omega)
theorem val_noughts {z : ByteArray} (h : ∀ j, j < z.size → byt z j = 48) : val 10 z = 0 := by
  unfold val
  exact tvr_zero fun n hn => by show dval (byt z (0 + n)) = 0; rw [Nat.zero_add, h n hn]; rfl
/-- strings.Repeat of one nought -/
def Noughts : Prop := ∀ (k : Nat), k ≤ 140737488351232 → ∀ w, Calls Tryz.prog 106 #[.string ⟨#[48]⟩, .int .i64 (k : Nat)] w fun e w' => ∃ z : ByteArray, e = .returned (.string z) ∧ z.size = k ∧ (∀ j, j < z.size → byt z j = 48) ∧ Below w.heap.size w w'
set_option maxHeartbeats 1000000 in
theorem pow10 (HR : Noughts) : Pow10 := fun k hk w h => by
  have G1 := hide' (HR k hk w)
  have HD := hide' h
  clear h
  go_enter Tryz.func79, Tryz.ntmps79
  go_wp2_with fail
  refine G1.out.mono ?_
  rintro e w1 ⟨z, rfl, hz, h48, b1⟩
  have i1 : isT 10 (⟨#[49]⟩ ++ z) := one_isT.2 fun j hj => by rw [h48 j hj]; decide
  have v1 := one_val (s := z)
  rw [val_noughts h48, hz, Nat.add_zero] at v1
  have z1 := one_size z
  have P := Parse_ok (⟨#[49]⟩ ++ z) 10 (by omega) (by omega) (by omega) i1 w1 (HD.out.below b1)
  rw [v1] at P
  have G2 := hide' P
  clear P i1 v1 HD
  go_wp2_with fail
  refine G2.out.mono ?_
  rintro e w2 ⟨p, rfl, n2⟩
  go_wp2
  go_ret
  exact ⟨p, rfl, n2.back b1⟩
end Go.Proofs.YtjbeagbkjmaeeaaGreatDoor
