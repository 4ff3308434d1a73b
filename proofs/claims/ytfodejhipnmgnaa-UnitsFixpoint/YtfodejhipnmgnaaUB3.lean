/-
  units: Grow.
-/
import Derived.Test.YtfodejhipnmgnaaUB2
namespace Go.Proofs.Ytfodejhipnmgnaa
open Go.RowKit
set_option linter.unusedVariables false
set_option linter.unusedSimpArgs false
theorem maxLen_is : maxLen = 9223372036854775807 := rfl
/-- the whole store as it is told: behind calls that change it -/
structure Step (ow ow' : Nat → Tg) (w w' : World) : Prop where
  chg : Chg ow w w'
  same : ∀ x, x < w.heap.size → ow' x = ow x
theorem Step.refl (ow : Nat → Tg) (w : World) : Step ow ow w w := ⟨Chg.refl _ _, fun _ _ => rfl⟩
theorem Step.trans {ow ow1 ow2 : Nat → Tg} {w w1 w2 : World} (h : Step ow ow1 w w1) (k : Step ow1 ow2 w1 w2) : Step ow ow2 w w2 :=
  ⟨h.chg.trans k.chg h.same, fun x hx => (k.same x (Nat.lt_of_lt_of_le hx h.chg.size)).trans (h.same x hx)⟩
theorem Step.of_below {ow : Nat → Tg} {w w' : World} (h : Below w.heap.size w w') : Step ow ow w w' := ⟨Chg.of_below h, fun _ _ => rfl⟩
/-- below a bound where nothing is the store's -/
theorem Step.below {ow ow' : Nat → Tg} {w w' : World} {B : Nat} (h : Step ow ow' w w') (hB : ∀ x, x < B → ow x = .oth) (hs : B ≤ w.heap.size) : Below B w w' :=
  ⟨h.chg.os, h.chg.tape, h.chg.output, h.chg.size, fun x hx => h.chg.block x (by omega) (hB x hx)⟩
end Go.Proofs.Ytfodejhipnmgnaa
