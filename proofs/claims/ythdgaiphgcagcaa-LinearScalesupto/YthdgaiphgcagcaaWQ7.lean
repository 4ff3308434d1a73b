/-
  The reference of layer 3: Neg, Sign, Abs, Add.
-/
import Derived.Test.YthdgaiphgcagcaaWQ5
import Derived.Test.YthdgaiphgcagcaaWQ6
import Derived.Test.YthdgaiphgcagcaaW13
namespace Go.Proofs.Ythdgaiphgcagcaa
open Go.RowKit
set_option linter.unusedVariables false

theorem Low.nf {N Z : Int} {V1 V : Nat} (h : Low N (V1 : Int) Z V) (h1 : 0 < V1) : Low (rn (ng N) (am N) V1) ((rd V1 : Nat) : Int) Z V := by rw [rn_nf h1, rd_nf h1]; exact h
theorem low_ln {s : Bool} {X Y n m : Nat} {Z : Int} {V : Nat} (hX : X < BB ^ n) (hY : Y < BB ^ m) (h : Low (rn s X Y) ((rd Y : Nat) : Int) Z V) : ln (am Z) ≤ n ∧ ln V ≤ m + 1 := by
  have h1 := h.le
  rw [am_nat] at h1
  exact ⟨ln_le_of_lt (Nat.lt_of_le_of_lt (Nat.le_trans h1.1 (rn_am s X Y)) hX), ln_le_of_lt (Nat.lt_of_le_of_lt h1.2 (rd_lt hY))⟩
theorem Low.neg {A D Z : Int} {V : Nat} (h : Low A D Z V) : Low (-A) D (-Z) V := ⟨h.ne, h.pos, by have := h.eq; rw [Int.neg_mul, Int.neg_mul, this], by rw [am_neg]; exact h.cop⟩

theorem run_field0 (v0 v1 v2 : Value) (w : World) : (Instr.field 27 (.agg #[v0, v1, v2]) 0).run Try.prog w = .ok (.agg #[v0, v1]) w := by kernel_rfl

set_option maxHeartbeats 4000000 in
set_option maxRecDepth 100000 in
theorem vqSign_is (s0 : Bool) (a0 : Option Addr) (n0 c0 X0 : Nat) (b0 : Option Addr) (m0 d0 Y0 : Nat) (C : Int) (w : World) (hc0 : n0 ≤ c0) (hm0 : n0 ≤ 35184372087808) (hS0 : Seg w a0 X0 n0) (hd0 : m0 ≤ d0) (hk0 : m0 ≤ 35184372087808) (hT0 : Seg w b0 Y0 m0) (hC : sgn (rn s0 X0 Y0) = C) :
    Calls Try.prog 24 #[Value.agg #[Value.bool s0, Value.slice a0 n0 c0, Value.slice b0 m0 d0]] w fun e w' => e = .returned (.int .i64 C) ∧ Below w.heap.size w w' := by
  obtain ⟨Z1, V1, h1⟩ := low_ex (rn s0 X0 Y0) (rd Y0 : Nat) (rd_ne Y0)
  have l1 := low_ln hS0.1 hT0.1 h1
  have lZ := l1.1
  have hs : sgn Z1 = C := by rw [h1.sgn (by have := rd_pos Y0; omega)]; exact hC
  have H1 := hide' h1
  have HS' := fun w' p k => vSign_is (ng Z1) p (ln (am Z1)) (ln (am Z1)) (am Z1) Z1 w' (by omega) k (sg_na Z1)
  rw [hs] at HS'
  have HS := hide' HS'
  have hf := run_field0
  clear hC h1 l1 hs HS'
  go_enter Try.func24, Try.ntmps24
  go_wp2_with fail
  obtain ⟨W, hW⟩ : ∃ W, (w.alloc (.cells #[.bool s0, .slice a0 n0 c0, .slice b0 m0 d0] 27)) = W := ⟨_, rfl⟩
  have q00 : W.cell? ⟨w.heap.size, 0, none⟩ = some (.bool s0) := by subst hW; go_simp
  have q01 : W.cell? ⟨w.heap.size, 1, none⟩ = some (.slice a0 n0 c0) := by subst hW; go_simp
  have q02 : W.cell? ⟨w.heap.size, 2, none⟩ = some (.slice b0 m0 d0) := by subst hW; go_simp
  have hB : Below w.heap.size w W := by subst hW; exact ((Below.refl _ _).alloc (by (try simp only [World.size_alloc]); omega) _)
  have hz : W.heap.size = w.heap.size + 1 := by subst hW; simp only [World.size_alloc]
  rw [hW]
  clear hW
  have hBW : Below W.heap.size W W := Below.refl _ _
  refine (vqNorm_is s0 a0 n0 c0 X0 b0 m0 d0 Y0 V1 Z1 _ hm0 (sb hS0 hB hBW) hk0 (sb hT0 hB hBW) H1.out).mono ?_
  rintro e w11 ⟨p11, q11, rfl, hp11, hq11⟩
  have b11 := hp11.below
  replace hp11 := hp11.back hBW
  replace hq11 := hq11.back hBW
  replace hBW := hBW.trans (b11.mono hBW.size)
  replace q00 := below_cell b11 q00
  replace q01 := below_cell b11 q01
  replace q02 := below_cell b11 q02
  go_wp2_with fail
  refine (HS.out _ p11 hp11.seg).mono ?_
  rintro e w12 ⟨rfl, b12⟩
  replace hBW := hBW.trans (b12.mono hBW.size)
  replace q00 := below_cell b12 q00
  replace q01 := below_cell b12 q01
  replace q02 := below_cell b12 q02
  replace hp11 := hp11.later b12
  replace hq11 := hq11.later b12
  go_wp2
  go_ret
  exact ⟨rfl, hB.trans (hBW.mono hB.size)⟩

end Go.Proofs.Ythdgaiphgcagcaa
