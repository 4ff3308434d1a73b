/-
  Spans: the reference's Valid.
-/
import Derived.Test.YthecapmdionnmaaWFG
namespace Go.Proofs.Ythecapmdionnmaa
open Go.RowKit
set_option linter.unusedVariables false

/-- an infinite end's side -/
def faI (b : Nat) : Int := if b = FI then 1 else -1
end Go.Proofs.Ythecapmdionnmaa

namespace Go.Proofs.Ythecapmdionnmaa
open Go.RowKit
set_option linter.unusedVariables false

theorem fv_lt {b c : Nat} : fv b < fv c ↔ fkey b < fkey c := sgd_lt (fneg b) (fneg c) (b % SB) (c % SB)
theorem low_cmp {z T b c : Nat} {Z1 Z2 : Int} {V1 V2 : Nat} (hT : T = 2 ^ z) (h1 : Low (fv b) (T : Int) Z1 V1) (h2 : Low (fv c) (T : Int) Z2 V2) : sgn (Z1 * (V2 : Int) - Z2 * (V1 : Int)) = sgn (fv b - fv c) := by
  have hT0 : (0 : Int) < T := by rw [hT]; have := Nat.two_pow_pos z; omega
  have p1 := h1.pos
  have p2 := h2.pos
  have e1 := h1.eq
  have e2 := h2.eq
  have a := sgn_mul_pos (a := Z1 * (V2 : Int) - Z2 * (V1 : Int)) hT0
  have b' := sgn_mul_pos (a := fv b - fv c) (b := (V1 : Int) * (V2 : Int)) (Int.mul_pos (by omega) (by omega))
  rw [← a, ← b']
  congr 1
  grind
theorem sgn_lt0 {a : Int} : sgn a < 0 ↔ a < 0 := by
  rcases Int.lt_trichotomy a 0 with g | g | g
  · rw [sgn_neg g]; omega
  · subst g; decide
  · rw [sgn_pos g]; omega
theorem inf_hi {b : Nat} (hb : b < 18446744073709551616) (h : b % SB = FI) (h2 : b ≠ SB + FI) : b = FI := by
  have e1 := FIv; have e2 := SBv
  rw [e2] at h h2; omega
theorem inf_lo {b : Nat} (hb : b < 18446744073709551616) (h : b % SB = FI) (h2 : b ≠ FI) : b = SB + FI := by
  have e1 := FIv; have e2 := SBv
  rw [e2] at h ⊢; omega
theorem key_rng {b : Nat} (h : b % SB ≤ FI) : -(FI : Int) ≤ fkey b ∧ fkey b ≤ FI := by
  unfold fkey; split <;> omega

end Go.Proofs.Ythecapmdionnmaa
