/-
  Layer 2's sums, products and order.
-/
import Derived.Test.YticdpbkbnflgbaaW7
import Derived.Test.YticdpbkbnflgbaaWI1
namespace Go.Proofs.Yticdpbkbnflgbaa
open Go.RowKit
set_option linter.unusedVariables false

theorem hide' {p : Prop} (h : p) : Hid p := h


theorem Add_is (ao ao2 : Option Addr) (n cap X m cap2 Y Z : Nat) (w : World) (hc : n ≤ cap) (hm : n ≤ 70368744177663) (hS : Seg w ao X n) (hc2 : m ≤ cap2) (hm2 : m ≤ 70368744177663) (hS2 : Seg w ao2 Y m) (hz : X + Y = Z) :
    Calls Try.prog 87 #[.slice ao n cap, .slice ao2 m cap2] w fun e w' => ∃ ao', e = .returned (.slice ao' (ln Z) (ln Z)) ∧ New w w' ao' Z (ln Z) := by
  subst hz; exact Add_any ao ao2 n cap X m cap2 Y w hc hm hS hc2 hm2 hS2
end Go.Proofs.Yticdpbkbnflgbaa

namespace Go.Proofs.Yticdpbkbnflgbaa
open Go.RowKit
set_option linter.unusedVariables false

theorem sd_beq (s t : Bool) : (sd s == sd t) = (s == t) := by cases s <;> cases t <;> rfl




end Go.Proofs.Yticdpbkbnflgbaa
