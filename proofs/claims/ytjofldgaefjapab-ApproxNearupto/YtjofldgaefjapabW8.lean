/-
  mulInto by induction on the lengths, Mul.
-/
import Derived.Test.YtjofldgaefjapabW7
namespace Go.Proofs.Ytjofldgaefjapab
open Go.RowKit
set_option linter.unusedVariables false

theorem hide' {p : Prop} (h : p) : Hid p := h


theorem Add_is (ao ao2 : Option Addr) (n cap X m cap2 Y Z : Nat) (w : World) (hc : n ≤ cap) (hm : n ≤ 70368744177663) (hS : Seg w ao X n) (hc2 : m ≤ cap2) (hm2 : m ≤ 70368744177663) (hS2 : Seg w ao2 Y m) (hz : X + Y = Z) :
    Calls Try.prog 82 #[.slice ao n cap, .slice ao2 m cap2] w fun e w' => ∃ ao', e = .returned (.slice ao' (ln Z) (ln Z)) ∧ New w w' ao' Z (ln Z) := by
  subst hz; exact Add_any ao ao2 n cap X m cap2 Y w hc hm hS hc2 hm2 hS2
end Go.Proofs.Ytjofldgaefjapab
