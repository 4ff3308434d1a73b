/-
  The reference of layer 3: Neg, Sign, Abs, Add.
-/
import Derived.Test.YtbglcihfambibaaWQ5
import Derived.Test.YtbglcihfambibaaWQ6
import Derived.Test.YtbglcihfambibaaW13
namespace Go.Proofs.Ytbglcihfambibaa
open Go.RowKit
set_option linter.unusedVariables false

theorem Low.nf {N Z : Int} {V1 V : Nat} (h : Low N (V1 : Int) Z V) (h1 : 0 < V1) : Low (rn (ng N) (am N) V1) ((rd V1 : Nat) : Int) Z V := by rw [rn_nf h1, rd_nf h1]; exact h
theorem low_ln {s : Bool} {X Y n m : Nat} {Z : Int} {V : Nat} (hX : X < BB ^ n) (hY : Y < BB ^ m) (h : Low (rn s X Y) ((rd Y : Nat) : Int) Z V) : ln (am Z) ≤ n ∧ ln V ≤ m + 1 := by
  have h1 := h.le
  rw [am_nat] at h1
  exact ⟨ln_le_of_lt (Nat.lt_of_le_of_lt (Nat.le_trans h1.1 (rn_am s X Y)) hX), ln_le_of_lt (Nat.lt_of_le_of_lt h1.2 (rd_lt hY))⟩
theorem Low.neg {A D Z : Int} {V : Nat} (h : Low A D Z V) : Low (-A) D (-Z) V := ⟨h.ne, h.pos, by have := h.eq; rw [Int.neg_mul, Int.neg_mul, this], by rw [am_neg]; exact h.cop⟩

theorem run_field0 (v0 v1 v2 : Value) (w : World) : (Instr.field 36 (.agg #[v0, v1, v2]) 0).run Try.prog w = .ok (.agg #[v0, v1]) w := by kernel_rfl


end Go.Proofs.Ytbglcihfambibaa
