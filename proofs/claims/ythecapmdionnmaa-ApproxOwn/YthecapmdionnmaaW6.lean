/-
  Products: addTimes, mulByLimbs, halvesSum, mulInto, mulByHalves, product, Mul.
-/
import Derived.Test.YthecapmdionnmaaW2
import Derived.Test.YthecapmdionnmaaNumM
import Derived.Deep.RegionWith
namespace Go.Proofs.Ythecapmdionnmaa
open Go.RowKit
set_option linter.unusedVariables false

/-- a part of a slice, written: the whole -/
theorem Seg.splice {w w' : World} {b off C D N i n : Nat} (h : Seg w (some ⟨b, off, none⟩) C N) (k : Wr b (off + i) (off + i + n) w w') (hd : Seg w' (some ⟨b, off + i, none⟩) D n) (hin : i + n ≤ N) (hN : 0 < N) :
    Seg w' (some ⟨b, off, none⟩) (put C i n D) N := by
  refine Seg.mk' (put_lt h.1 hd.1 hin) (Nat.lt_of_lt_of_le (h.lt hN) k.size) fun j hj => ?_
  by_cases h1 : j < i
  · rw [k.cell (off + j) (by omega), h.cells j hj, dg_put_lo h1]
  · by_cases h2 : j < i + n
    · have := hd.cells (j - i) (by omega)
      rw [show off + i + (j - i) = off + j by omega] at this
      rw [this, dg_put_mid (by omega) h2]
    · rw [k.cell (off + j) (by omega), h.cells j hj, dg_put_hi hd.1 (by omega)]
/-- one cell, written -/
theorem Seg.store {w : World} {b off C N i d : Nat} (h : Seg w (some ⟨b, off, none⟩) C N) (hi : i < N) (hd : d < 4294967296) {v : Int} (hv : v = (d : Nat)) :
    Seg (w.setCell ⟨b, off + i, none⟩ (.int .u32 v)) (some ⟨b, off, none⟩) (put C i 1 d) N := by
  have hd' : d < BB ^ 1 := by rw [Nat.pow_one, BB_eq]; exact hd
  refine Seg.mk' (put_lt h.1 hd' (by omega)) (by have := h.lt (by omega); simpa using this) fun j hj => ?_
  by_cases e : j = i
  · subst e
    rw [World.cell?_setCell_same (u := .int .u32 (dg C j : Nat)) _ _ _ (h.cells j hj), hv, dg_put_mid (by omega) (by omega), Nat.sub_self, dg0, Nat.mod_eq_of_lt hd]
  · rw [World.cell?_setCell_other _ _ _ _ (fun e' => by simp only [Addr.mk.injEq, true_and, and_true] at e'; omega), h.cells j hj]
    by_cases e2 : j < i
    · rw [dg_put_lo e2]
    · rw [dg_put_hi hd' (by omega)]


theorem mul_step_lt {C X i n : Nat} {Y : Nat} (hX : X < BB ^ n) (hC : C = X * (Y % BB ^ i)) : C < BB ^ (i + n) := by
  rw [hC, Nat.mul_comm, Nat.pow_add]
  have h1 : Y % BB ^ i < BB ^ i := Nat.mod_lt _ (BBp i)
  exact Nat.lt_of_le_of_lt (Nat.mul_le_mul_right _ (Nat.le_of_lt h1)) (Nat.mul_lt_mul_of_pos_left hX (BBp i))

end Go.Proofs.Ythecapmdionnmaa
