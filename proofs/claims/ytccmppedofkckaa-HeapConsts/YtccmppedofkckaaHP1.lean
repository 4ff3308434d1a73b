/-
  heap: the small functions.
-/
import Derived.Test.YtccmppedofkckaaProg
import Derived.WalkKit
import Derived.WalkSpells
import Derived.WalkLawsBesides
import Derived.CellFam
import Derived.BigQuiet
import Derived.Deep.OwnRows
import Derived.Deep.AppendLies
import Derived.Laws.OwnMore
import Derived.Laws.CopyOwn
import Derived.Deep.RegionHeld3
namespace Go.Proofs.Ytccmppedofkckaa
open Go.RowKit
set_option linter.unusedVariables false
set_option linter.unusedSimpArgs false

theorem hide' {p : Prop} (h : p) : Hid p := h
set_option maxHeartbeats 2000000 in
set_option maxRecDepth 100000 in
theorem put_is (b t p : Nat) (x n m c d k : Nat) (v1 v2 : Value) (w : World) (h1 : w.cell? ⟨b, 1, none⟩ = some (.slice (some ⟨t, 0, none⟩) n c)) (h2 : w.cell? ⟨b, 2, none⟩ = some (.slice (some ⟨p, 0, none⟩) m d)) (hk : k < n) (hx : x < m) (h3 : w.cell? ⟨t, k, none⟩ = some v1) (h4 : w.cell? ⟨p, x, none⟩ = some v2) (f3 : w.frozen? ⟨t, k, none⟩ = false) (f4 : w.frozen? ⟨p, x, none⟩ = false) (e1 : b ≠ t) (e2 : b ≠ p) (e3 : t ≠ p) (hk9 : k < 4611686018427387904) :
    Calls Try.prog 25 #[.pointer (some ⟨b, 0, none⟩), .int .i64 k, .int .i64 x] w fun e w' => e = .returned (.tuple #[]) ∧ w' = (w.setCell ⟨t, k, none⟩ (.int .i64 x)).setCell ⟨p, x, none⟩ (.int .i64 ((k : Int) + 1)) := by
  go_enter Try.func25, Try.ntmps25
  go_wp2
  go_end0
  exact ⟨rfl, rfl⟩
set_option maxHeartbeats 2000000 in
set_option maxRecDepth 100000 in
theorem ahead_eq (s : Nat) (w : World) (h0 : w.cell? ⟨s, 0, none⟩ = some (.float .f64 0)) (h1 : w.cell? ⟨s, 1, none⟩ = some (.float .f64 0)) :
    Calls Try.prog 61 #[.slice (some ⟨s, 0, none⟩) 2 2, .int .i64 0, .int .i64 1] w fun e w' => e = .returned (.bool true) ∧ ∃ k, w' = w.drewN k := by
  go_enter Try.func61, Try.ntmps61
  have g1 : ∀ w, (binOp .gtr 29 (.float .f64 0) (.float .f64 0)).run Try.prog w = .ok (.bool false) w := fun w => by kernel_rfl
  have g2 : ∀ w, (binOp .eql 29 (.float .f64 0) (.float .f64 0)).run Try.prog w = .ok (.bool true) w := fun w => by kernel_rfl
  go_wp2_with fail
  go_quiet (fail)
  go_wp2
  go_ret
  exact ⟨rfl, _, rfl⟩
set_option maxHeartbeats 2000000 in
set_option maxRecDepth 100000 in
theorem ahead_lt (s : Nat) (w : World) (h0 : w.cell? ⟨s, 0, none⟩ = some (.float .f64 0)) (h1 : w.cell? ⟨s, 1, none⟩ = some (.float .f64 4607182418800017408)) :
    Calls Try.prog 61 #[.slice (some ⟨s, 0, none⟩) 2 2, .int .i64 0, .int .i64 1] w fun e w' => e = .returned (.bool false) ∧ ∃ k, w' = w.drewN k := by
  go_enter Try.func61, Try.ntmps61
  have g1 : ∀ w, (binOp .gtr 29 (.float .f64 0) (.float .f64 4607182418800017408)).run Try.prog w = .ok (.bool false) w := fun w => by kernel_rfl
  have g2 : ∀ w, (binOp .eql 29 (.float .f64 0) (.float .f64 4607182418800017408)).run Try.prog w = .ok (.bool false) w := fun w => by kernel_rfl
  go_wp2_with fail
  go_quiet (fail)
  go_wp2
  go_ret
  exact ⟨rfl, _, rfl⟩
end Go.Proofs.Ytccmppedofkckaa
