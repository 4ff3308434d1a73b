/-
  The reference: a number without its sign, quotients by powers of two, the greatest float that is not above.
-/
import Derived.Test.YtjofldgaefjapaaWF4
import Derived.Test.YtjofldgaefjapaaW13
import Derived.Test.YtjofldgaefjapaaW14
import Derived.Deep.LoopGhost
namespace Go.Proofs.Ytjofldgaefjapaa
open Go.RowKit
set_option linter.unusedVariables false

/-- the sign's bit of a number -/
def sI (s : Bool) (X Y : Nat) : Int := if rn s X Y < 0 then 9223372036854775808 else 0
theorem sI_of {s : Bool} {X Y : Nat} (hX : X ≠ 0) (hY : Y ≠ 0) : sI s X Y = if s then 9223372036854775808 else 0 := by
  unfold sI
  have h := rn_lt (s := s) hX hY
  cases s
  · rw [decide_eq_false_iff_not] at h; rw [if_neg h]; rfl
  · rw [decide_eq_true_iff] at h; rw [if_pos h]; rfl
theorem sI_nought {s : Bool} {X Y : Nat} (h : X = 0 ∨ Y = 0) : sI s X Y = 0 := by
  unfold sI; rw [rn_nought h]; rfl
theorem sI_plus (X Y : Nat) : sI false X Y = 0 := by
  unfold sI rn
  rw [if_neg]; split
  · omega
  · unfold sg; simp

set_option maxHeartbeats 4000000 in
set_option maxRecDepth 100000 in
theorem amount_is (s0 : Bool) (a0 : Option Addr) (n0 c0 X0 : Nat) (b0 : Option Addr) (m0 d0 Y0 : Nat)  (w : World) (hc0 : n0 ≤ c0) (hm0 : n0 ≤ 35184372087808) (hS0 : Seg w a0 X0 n0) (hd0 : m0 ≤ d0) (hk0 : m0 ≤ 35184372087808) (hT0 : Seg w b0 Y0 m0)  :
    Calls Try.prog 53 #[Value.agg #[Value.bool s0, Value.slice a0 n0 c0, Value.slice b0 m0 d0]] w fun e w' => e = .returned (.tuple #[.agg #[.bool false, .slice a0 n0 c0, .slice b0 m0 d0], .int .u64 (sI s0 X0 Y0)]) ∧ Below w.heap.size w w' := by
  cases s0
  · rw [sI_plus]
    go_enter Try.func53, Try.ntmps53
    go_upto_region 2 with fail
    have q00 : ((((w.alloc (.cells #[.bool false, .slice a0 n0 c0, .slice b0 m0 d0] 27)).alloc (.cells #[.bool false, .slice none 0 0, .slice none 0 0] 27)).alloc (.cells #[.bool false, .slice a0 n0 c0, .slice b0 m0 d0] 27))).cell? ⟨w.heap.size, 0, none⟩ = some (.bool false) := by go_simp
    have q01 : ((((w.alloc (.cells #[.bool false, .slice a0 n0 c0, .slice b0 m0 d0] 27)).alloc (.cells #[.bool false, .slice none 0 0, .slice none 0 0] 27)).alloc (.cells #[.bool false, .slice a0 n0 c0, .slice b0 m0 d0] 27))).cell? ⟨w.heap.size, 1, none⟩ = some (.slice a0 n0 c0) := by go_simp
    have q02 : ((((w.alloc (.cells #[.bool false, .slice a0 n0 c0, .slice b0 m0 d0] 27)).alloc (.cells #[.bool false, .slice none 0 0, .slice none 0 0] 27)).alloc (.cells #[.bool false, .slice a0 n0 c0, .slice b0 m0 d0] 27))).cell? ⟨w.heap.size, 2, none⟩ = some (.slice b0 m0 d0) := by go_simp
    have r00 : ((((w.alloc (.cells #[.bool false, .slice a0 n0 c0, .slice b0 m0 d0] 27)).alloc (.cells #[.bool false, .slice none 0 0, .slice none 0 0] 27)).alloc (.cells #[.bool false, .slice a0 n0 c0, .slice b0 m0 d0] 27))).cell? ⟨w.heap.size + 1, 0, none⟩ = some (.bool false) := by go_simp
    have r01 : ((((w.alloc (.cells #[.bool false, .slice a0 n0 c0, .slice b0 m0 d0] 27)).alloc (.cells #[.bool false, .slice none 0 0, .slice none 0 0] 27)).alloc (.cells #[.bool false, .slice a0 n0 c0, .slice b0 m0 d0] 27))).cell? ⟨w.heap.size + 1, 1, none⟩ = some (.slice none 0 0) := by go_simp
    have r02 : ((((w.alloc (.cells #[.bool false, .slice a0 n0 c0, .slice b0 m0 d0] 27)).alloc (.cells #[.bool false, .slice none 0 0, .slice none 0 0] 27)).alloc (.cells #[.bool false, .slice a0 n0 c0, .slice b0 m0 d0] 27))).cell? ⟨w.heap.size + 1, 2, none⟩ = some (.slice none 0 0) := by go_simp
    have r10 : ((((w.alloc (.cells #[.bool false, .slice a0 n0 c0, .slice b0 m0 d0] 27)).alloc (.cells #[.bool false, .slice none 0 0, .slice none 0 0] 27)).alloc (.cells #[.bool false, .slice a0 n0 c0, .slice b0 m0 d0] 27))).cell? ⟨w.heap.size + 1 + 1, 0, none⟩ = some (.bool false) := by go_simp
    have r11 : ((((w.alloc (.cells #[.bool false, .slice a0 n0 c0, .slice b0 m0 d0] 27)).alloc (.cells #[.bool false, .slice none 0 0, .slice none 0 0] 27)).alloc (.cells #[.bool false, .slice a0 n0 c0, .slice b0 m0 d0] 27))).cell? ⟨w.heap.size + 1 + 1, 1, none⟩ = some (.slice a0 n0 c0) := by go_simp
    have r12 : ((((w.alloc (.cells #[.bool false, .slice a0 n0 c0, .slice b0 m0 d0] 27)).alloc (.cells #[.bool false, .slice none 0 0, .slice none 0 0] 27)).alloc (.cells #[.bool false, .slice a0 n0 c0, .slice b0 m0 d0] 27))).cell? ⟨w.heap.size + 1 + 1, 2, none⟩ = some (.slice b0 m0 d0) := by go_simp
    have hB : Below w.heap.size w ((((w.alloc (.cells #[.bool false, .slice a0 n0 c0, .slice b0 m0 d0] 27)).alloc (.cells #[.bool false, .slice none 0 0, .slice none 0 0] 27)).alloc (.cells #[.bool false, .slice a0 n0 c0, .slice b0 m0 d0] 27))) := ((((Below.refl _ _).alloc (by (try simp only [World.size_alloc]); omega) _).alloc (by (try simp only [World.size_alloc]); omega) _).alloc (by (try simp only [World.size_alloc]); omega) _)
    have hR0 : Row ((((w.alloc (.cells #[.bool false, .slice a0 n0 c0, .slice b0 m0 d0] 27)).alloc (.cells #[.bool false, .slice none 0 0, .slice none 0 0] 27)).alloc (.cells #[.bool false, .slice a0 n0 c0, .slice b0 m0 d0] 27))) (w.heap.size + 1) := by
      have := row_new ((w.alloc (.cells #[.bool false, .slice a0 n0 c0, .slice b0 m0 d0] 27))) #[.bool false, .slice none 0 0, .slice none 0 0] 27
      try simp only [World.size_alloc] at this
      exact (this.alloc _)
    have hR1 : Row ((((w.alloc (.cells #[.bool false, .slice a0 n0 c0, .slice b0 m0 d0] 27)).alloc (.cells #[.bool false, .slice none 0 0, .slice none 0 0] 27)).alloc (.cells #[.bool false, .slice a0 n0 c0, .slice b0 m0 d0] 27))) (w.heap.size + 1 + 1) := by
      have := row_new (((w.alloc (.cells #[.bool false, .slice a0 n0 c0, .slice b0 m0 d0] 27)).alloc (.cells #[.bool false, .slice none 0 0, .slice none 0 0] 27))) #[.bool false, .slice a0 n0 c0, .slice b0 m0 d0] 27
      try simp only [World.size_alloc] at this
      exact this
    have hz : ((((w.alloc (.cells #[.bool false, .slice a0 n0 c0, .slice b0 m0 d0] 27)).alloc (.cells #[.bool false, .slice none 0 0, .slice none 0 0] 27)).alloc (.cells #[.bool false, .slice a0 n0 c0, .slice b0 m0 d0] 27))).heap.size = w.heap.size + 1 + 1 + 1 := by simp only [World.size_alloc]
    generalize (((w.alloc (.cells #[.bool false, .slice a0 n0 c0, .slice b0 m0 d0] 27)).alloc (.cells #[.bool false, .slice none 0 0, .slice none 0 0] 27)).alloc (.cells #[.bool false, .slice a0 n0 c0, .slice b0 m0 d0] 27)) = W at q00 q01 q02 r00 r01 r02 r10 r11 r12 hR0 hR1 hB hz ⊢
    have hBW : Below W.heap.size W W := Below.refl _ _
    have fz0 := fun o => hR0.frozen o
    have fz0 := fun o => hR0.frozen o
    have fz1 := fun o => hR1.frozen o
    go_wp2
    all_goals refine bodyPost_ret (v := .tuple #[Value.agg #[Value.bool false, Value.slice a0 n0 c0, Value.slice b0 m0 d0], .int .u64 0]) (by rw [results_cell_tmp rfl]; go_simp) rfl ?_
    all_goals exact ⟨rfl, ((bset (bset (bset (hB.trans (hBW.mono hB.size)) (by omega)) (by omega)) (by omega)))⟩
  · by_cases hX : X0 = 0
    · rw [sI_nought (Or.inl hX)]
      have hbx : bl X0 = 0 := by rw [hX]; exact bl_zero
      clear hX
      go_enter Try.func53, Try.ntmps53
      go_upto_region 2 with fail
      have q00 : ((((w.alloc (.cells #[.bool true, .slice a0 n0 c0, .slice b0 m0 d0] 27)).alloc (.cells #[.bool false, .slice none 0 0, .slice none 0 0] 27)).alloc (.cells #[.bool false, .slice a0 n0 c0, .slice b0 m0 d0] 27))).cell? ⟨w.heap.size, 0, none⟩ = some (.bool true) := by go_simp
      have q01 : ((((w.alloc (.cells #[.bool true, .slice a0 n0 c0, .slice b0 m0 d0] 27)).alloc (.cells #[.bool false, .slice none 0 0, .slice none 0 0] 27)).alloc (.cells #[.bool false, .slice a0 n0 c0, .slice b0 m0 d0] 27))).cell? ⟨w.heap.size, 1, none⟩ = some (.slice a0 n0 c0) := by go_simp
      have q02 : ((((w.alloc (.cells #[.bool true, .slice a0 n0 c0, .slice b0 m0 d0] 27)).alloc (.cells #[.bool false, .slice none 0 0, .slice none 0 0] 27)).alloc (.cells #[.bool false, .slice a0 n0 c0, .slice b0 m0 d0] 27))).cell? ⟨w.heap.size, 2, none⟩ = some (.slice b0 m0 d0) := by go_simp
      have r00 : ((((w.alloc (.cells #[.bool true, .slice a0 n0 c0, .slice b0 m0 d0] 27)).alloc (.cells #[.bool false, .slice none 0 0, .slice none 0 0] 27)).alloc (.cells #[.bool false, .slice a0 n0 c0, .slice b0 m0 d0] 27))).cell? ⟨w.heap.size + 1, 0, none⟩ = some (.bool false) := by go_simp
      have r01 : ((((w.alloc (.cells #[.bool true, .slice a0 n0 c0, .slice b0 m0 d0] 27)).alloc (.cells #[.bool false, .slice none 0 0, .slice none 0 0] 27)).alloc (.cells #[.bool false, .slice a0 n0 c0, .slice b0 m0 d0] 27))).cell? ⟨w.heap.size + 1, 1, none⟩ = some (.slice none 0 0) := by go_simp
      have r02 : ((((w.alloc (.cells #[.bool true, .slice a0 n0 c0, .slice b0 m0 d0] 27)).alloc (.cells #[.bool false, .slice none 0 0, .slice none 0 0] 27)).alloc (.cells #[.bool false, .slice a0 n0 c0, .slice b0 m0 d0] 27))).cell? ⟨w.heap.size + 1, 2, none⟩ = some (.slice none 0 0) := by go_simp
      have r10 : ((((w.alloc (.cells #[.bool true, .slice a0 n0 c0, .slice b0 m0 d0] 27)).alloc (.cells #[.bool false, .slice none 0 0, .slice none 0 0] 27)).alloc (.cells #[.bool false, .slice a0 n0 c0, .slice b0 m0 d0] 27))).cell? ⟨w.heap.size + 1 + 1, 0, none⟩ = some (.bool false) := by go_simp
      have r11 : ((((w.alloc (.cells #[.bool true, .slice a0 n0 c0, .slice b0 m0 d0] 27)).alloc (.cells #[.bool false, .slice none 0 0, .slice none 0 0] 27)).alloc (.cells #[.bool false, .slice a0 n0 c0, .slice b0 m0 d0] 27))).cell? ⟨w.heap.size + 1 + 1, 1, none⟩ = some (.slice a0 n0 c0) := by go_simp
      have r12 : ((((w.alloc (.cells #[.bool true, .slice a0 n0 c0, .slice b0 m0 d0] 27)).alloc (.cells #[.bool false, .slice none 0 0, .slice none 0 0] 27)).alloc (.cells #[.bool false, .slice a0 n0 c0, .slice b0 m0 d0] 27))).cell? ⟨w.heap.size + 1 + 1, 2, none⟩ = some (.slice b0 m0 d0) := by go_simp
      have hB : Below w.heap.size w ((((w.alloc (.cells #[.bool true, .slice a0 n0 c0, .slice b0 m0 d0] 27)).alloc (.cells #[.bool false, .slice none 0 0, .slice none 0 0] 27)).alloc (.cells #[.bool false, .slice a0 n0 c0, .slice b0 m0 d0] 27))) := ((((Below.refl _ _).alloc (by (try simp only [World.size_alloc]); omega) _).alloc (by (try simp only [World.size_alloc]); omega) _).alloc (by (try simp only [World.size_alloc]); omega) _)
      have hR0 : Row ((((w.alloc (.cells #[.bool true, .slice a0 n0 c0, .slice b0 m0 d0] 27)).alloc (.cells #[.bool false, .slice none 0 0, .slice none 0 0] 27)).alloc (.cells #[.bool false, .slice a0 n0 c0, .slice b0 m0 d0] 27))) (w.heap.size + 1) := by
        have := row_new ((w.alloc (.cells #[.bool true, .slice a0 n0 c0, .slice b0 m0 d0] 27))) #[.bool false, .slice none 0 0, .slice none 0 0] 27
        try simp only [World.size_alloc] at this
        exact (this.alloc _)
      have hR1 : Row ((((w.alloc (.cells #[.bool true, .slice a0 n0 c0, .slice b0 m0 d0] 27)).alloc (.cells #[.bool false, .slice none 0 0, .slice none 0 0] 27)).alloc (.cells #[.bool false, .slice a0 n0 c0, .slice b0 m0 d0] 27))) (w.heap.size + 1 + 1) := by
        have := row_new (((w.alloc (.cells #[.bool true, .slice a0 n0 c0, .slice b0 m0 d0] 27)).alloc (.cells #[.bool false, .slice none 0 0, .slice none 0 0] 27))) #[.bool false, .slice a0 n0 c0, .slice b0 m0 d0] 27
        try simp only [World.size_alloc] at this
        exact this
      have hz : ((((w.alloc (.cells #[.bool true, .slice a0 n0 c0, .slice b0 m0 d0] 27)).alloc (.cells #[.bool false, .slice none 0 0, .slice none 0 0] 27)).alloc (.cells #[.bool false, .slice a0 n0 c0, .slice b0 m0 d0] 27))).heap.size = w.heap.size + 1 + 1 + 1 := by simp only [World.size_alloc]
      generalize (((w.alloc (.cells #[.bool true, .slice a0 n0 c0, .slice b0 m0 d0] 27)).alloc (.cells #[.bool false, .slice none 0 0, .slice none 0 0] 27)).alloc (.cells #[.bool false, .slice a0 n0 c0, .slice b0 m0 d0] 27)) = W at q00 q01 q02 r00 r01 r02 r10 r11 r12 hR0 hR1 hB hz ⊢
      have hBW : Below W.heap.size W W := Below.refl _ _
      have fz0 := fun o => hR0.frozen o
      go_wp2_with fail
      refine (rBits_any _ _ _ X0 _ (by omega) (sb hS0 hB hBW)).mono ?_
      rintro e w1 ⟨rfl, rfl⟩
      have fz0 := fun o => hR0.frozen o
      have fz1 := fun o => hR1.frozen o
      go_wp2
      all_goals refine bodyPost_ret (v := .tuple #[Value.agg #[Value.bool false, Value.slice a0 n0 c0, Value.slice b0 m0 d0], .int .u64 0]) (by rw [results_cell_tmp rfl]; go_simp) rfl ?_
      all_goals exact ⟨rfl, ((bset (bset (bset (hB.trans (hBW.mono hB.size)) (by omega)) (by omega)) (by omega)))⟩
    · by_cases hY : Y0 = 0
      · rw [sI_nought (Or.inr hY)]
        have hbx : 0 < bl X0 := by rw [bl_pos hX]; omega
        have hby : bl Y0 = 0 := by rw [hY]; exact bl_zero
        clear hX hY
        go_enter Try.func53, Try.ntmps53
        go_upto_region 2 with fail
        have q00 : ((((w.alloc (.cells #[.bool true, .slice a0 n0 c0, .slice b0 m0 d0] 27)).alloc (.cells #[.bool false, .slice none 0 0, .slice none 0 0] 27)).alloc (.cells #[.bool false, .slice a0 n0 c0, .slice b0 m0 d0] 27))).cell? ⟨w.heap.size, 0, none⟩ = some (.bool true) := by go_simp
        have q01 : ((((w.alloc (.cells #[.bool true, .slice a0 n0 c0, .slice b0 m0 d0] 27)).alloc (.cells #[.bool false, .slice none 0 0, .slice none 0 0] 27)).alloc (.cells #[.bool false, .slice a0 n0 c0, .slice b0 m0 d0] 27))).cell? ⟨w.heap.size, 1, none⟩ = some (.slice a0 n0 c0) := by go_simp
        have q02 : ((((w.alloc (.cells #[.bool true, .slice a0 n0 c0, .slice b0 m0 d0] 27)).alloc (.cells #[.bool false, .slice none 0 0, .slice none 0 0] 27)).alloc (.cells #[.bool false, .slice a0 n0 c0, .slice b0 m0 d0] 27))).cell? ⟨w.heap.size, 2, none⟩ = some (.slice b0 m0 d0) := by go_simp
        have r00 : ((((w.alloc (.cells #[.bool true, .slice a0 n0 c0, .slice b0 m0 d0] 27)).alloc (.cells #[.bool false, .slice none 0 0, .slice none 0 0] 27)).alloc (.cells #[.bool false, .slice a0 n0 c0, .slice b0 m0 d0] 27))).cell? ⟨w.heap.size + 1, 0, none⟩ = some (.bool false) := by go_simp
        have r01 : ((((w.alloc (.cells #[.bool true, .slice a0 n0 c0, .slice b0 m0 d0] 27)).alloc (.cells #[.bool false, .slice none 0 0, .slice none 0 0] 27)).alloc (.cells #[.bool false, .slice a0 n0 c0, .slice b0 m0 d0] 27))).cell? ⟨w.heap.size + 1, 1, none⟩ = some (.slice none 0 0) := by go_simp
        have r02 : ((((w.alloc (.cells #[.bool true, .slice a0 n0 c0, .slice b0 m0 d0] 27)).alloc (.cells #[.bool false, .slice none 0 0, .slice none 0 0] 27)).alloc (.cells #[.bool false, .slice a0 n0 c0, .slice b0 m0 d0] 27))).cell? ⟨w.heap.size + 1, 2, none⟩ = some (.slice none 0 0) := by go_simp
        have r10 : ((((w.alloc (.cells #[.bool true, .slice a0 n0 c0, .slice b0 m0 d0] 27)).alloc (.cells #[.bool false, .slice none 0 0, .slice none 0 0] 27)).alloc (.cells #[.bool false, .slice a0 n0 c0, .slice b0 m0 d0] 27))).cell? ⟨w.heap.size + 1 + 1, 0, none⟩ = some (.bool false) := by go_simp
        have r11 : ((((w.alloc (.cells #[.bool true, .slice a0 n0 c0, .slice b0 m0 d0] 27)).alloc (.cells #[.bool false, .slice none 0 0, .slice none 0 0] 27)).alloc (.cells #[.bool false, .slice a0 n0 c0, .slice b0 m0 d0] 27))).cell? ⟨w.heap.size + 1 + 1, 1, none⟩ = some (.slice a0 n0 c0) := by go_simp
        have r12 : ((((w.alloc (.cells #[.bool true, .slice a0 n0 c0, .slice b0 m0 d0] 27)).alloc (.cells #[.bool false, .slice none 0 0, .slice none 0 0] 27)).alloc (.cells #[.bool false, .slice a0 n0 c0, .slice b0 m0 d0] 27))).cell? ⟨w.heap.size + 1 + 1, 2, none⟩ = some (.slice b0 m0 d0) := by go_simp
        have hB : Below w.heap.size w ((((w.alloc (.cells #[.bool true, .slice a0 n0 c0, .slice b0 m0 d0] 27)).alloc (.cells #[.bool false, .slice none 0 0, .slice none 0 0] 27)).alloc (.cells #[.bool false, .slice a0 n0 c0, .slice b0 m0 d0] 27))) := ((((Below.refl _ _).alloc (by (try simp only [World.size_alloc]); omega) _).alloc (by (try simp only [World.size_alloc]); omega) _).alloc (by (try simp only [World.size_alloc]); omega) _)
        have hR0 : Row ((((w.alloc (.cells #[.bool true, .slice a0 n0 c0, .slice b0 m0 d0] 27)).alloc (.cells #[.bool false, .slice none 0 0, .slice none 0 0] 27)).alloc (.cells #[.bool false, .slice a0 n0 c0, .slice b0 m0 d0] 27))) (w.heap.size + 1) := by
          have := row_new ((w.alloc (.cells #[.bool true, .slice a0 n0 c0, .slice b0 m0 d0] 27))) #[.bool false, .slice none 0 0, .slice none 0 0] 27
          try simp only [World.size_alloc] at this
          exact (this.alloc _)
        have hR1 : Row ((((w.alloc (.cells #[.bool true, .slice a0 n0 c0, .slice b0 m0 d0] 27)).alloc (.cells #[.bool false, .slice none 0 0, .slice none 0 0] 27)).alloc (.cells #[.bool false, .slice a0 n0 c0, .slice b0 m0 d0] 27))) (w.heap.size + 1 + 1) := by
          have := row_new (((w.alloc (.cells #[.bool true, .slice a0 n0 c0, .slice b0 m0 d0] 27)).alloc (.cells #[.bool false, .slice none 0 0, .slice none 0 0] 27))) #[.bool false, .slice a0 n0 c0, .slice b0 m0 d0] 27
          try simp only [World.size_alloc] at this
          exact this
        have hz : ((((w.alloc (.cells #[.bool true, .slice a0 n0 c0, .slice b0 m0 d0] 27)).alloc (.cells #[.bool false, .slice none 0 0, .slice none 0 0] 27)).alloc (.cells #[.bool false, .slice a0 n0 c0, .slice b0 m0 d0] 27))).heap.size = w.heap.size + 1 + 1 + 1 := by simp only [World.size_alloc]
        generalize (((w.alloc (.cells #[.bool true, .slice a0 n0 c0, .slice b0 m0 d0] 27)).alloc (.cells #[.bool false, .slice none 0 0, .slice none 0 0] 27)).alloc (.cells #[.bool false, .slice a0 n0 c0, .slice b0 m0 d0] 27)) = W at q00 q01 q02 r00 r01 r02 r10 r11 r12 hR0 hR1 hB hz ⊢
        have hBW : Below W.heap.size W W := Below.refl _ _
        have fz0 := fun o => hR0.frozen o
        go_wp2_with fail
        refine (rBits_any _ _ _ X0 _ (by omega) (sb hS0 hB hBW)).mono ?_
        rintro e w1 ⟨rfl, rfl⟩
        go_wp2_with fail
        refine (rBits_any _ _ _ Y0 _ (by omega) (sb hT0 hB hBW)).mono ?_
        rintro e w1 ⟨rfl, rfl⟩
        have fz0 := fun o => hR0.frozen o
        have fz1 := fun o => hR1.frozen o
        go_wp2
        all_goals refine bodyPost_ret (v := .tuple #[Value.agg #[Value.bool false, Value.slice a0 n0 c0, Value.slice b0 m0 d0], .int .u64 0]) (by rw [results_cell_tmp rfl]; go_simp) rfl ?_
        all_goals exact ⟨rfl, ((bset (bset (bset (hB.trans (hBW.mono hB.size)) (by omega)) (by omega)) (by omega)))⟩
      · rw [sI_of hX hY]
        rw [if_pos rfl]
        have hbx : 0 < bl X0 := by rw [bl_pos hX]; omega
        have hby : 0 < bl Y0 := by rw [bl_pos hY]; omega
        clear hX hY
        go_enter Try.func53, Try.ntmps53
        go_upto_region 2 with fail
        have q00 : ((((w.alloc (.cells #[.bool true, .slice a0 n0 c0, .slice b0 m0 d0] 27)).alloc (.cells #[.bool false, .slice none 0 0, .slice none 0 0] 27)).alloc (.cells #[.bool false, .slice a0 n0 c0, .slice b0 m0 d0] 27))).cell? ⟨w.heap.size, 0, none⟩ = some (.bool true) := by go_simp
        have q01 : ((((w.alloc (.cells #[.bool true, .slice a0 n0 c0, .slice b0 m0 d0] 27)).alloc (.cells #[.bool false, .slice none 0 0, .slice none 0 0] 27)).alloc (.cells #[.bool false, .slice a0 n0 c0, .slice b0 m0 d0] 27))).cell? ⟨w.heap.size, 1, none⟩ = some (.slice a0 n0 c0) := by go_simp
        have q02 : ((((w.alloc (.cells #[.bool true, .slice a0 n0 c0, .slice b0 m0 d0] 27)).alloc (.cells #[.bool false, .slice none 0 0, .slice none 0 0] 27)).alloc (.cells #[.bool false, .slice a0 n0 c0, .slice b0 m0 d0] 27))).cell? ⟨w.heap.size, 2, none⟩ = some (.slice b0 m0 d0) := by go_simp
        have r00 : ((((w.alloc (.cells #[.bool true, .slice a0 n0 c0, .slice b0 m0 d0] 27)).alloc (.cells #[.bool false, .slice none 0 0, .slice none 0 0] 27)).alloc (.cells #[.bool false, .slice a0 n0 c0, .slice b0 m0 d0] 27))).cell? ⟨w.heap.size + 1, 0, none⟩ = some (.bool false) := by go_simp
        have r01 : ((((w.alloc (.cells #[.bool true, .slice a0 n0 c0, .slice b0 m0 d0] 27)).alloc (.cells #[.bool false, .slice none 0 0, .slice none 0 0] 27)).alloc (.cells #[.bool false, .slice a0 n0 c0, .slice b0 m0 d0] 27))).cell? ⟨w.heap.size + 1, 1, none⟩ = some (.slice none 0 0) := by go_simp
        have r02 : ((((w.alloc (.cells #[.bool true, .slice a0 n0 c0, .slice b0 m0 d0] 27)).alloc (.cells #[.bool false, .slice none 0 0, .slice none 0 0] 27)).alloc (.cells #[.bool false, .slice a0 n0 c0, .slice b0 m0 d0] 27))).cell? ⟨w.heap.size + 1, 2, none⟩ = some (.slice none 0 0) := by go_simp
        have r10 : ((((w.alloc (.cells #[.bool true, .slice a0 n0 c0, .slice b0 m0 d0] 27)).alloc (.cells #[.bool false, .slice none 0 0, .slice none 0 0] 27)).alloc (.cells #[.bool false, .slice a0 n0 c0, .slice b0 m0 d0] 27))).cell? ⟨w.heap.size + 1 + 1, 0, none⟩ = some (.bool false) := by go_simp
        have r11 : ((((w.alloc (.cells #[.bool true, .slice a0 n0 c0, .slice b0 m0 d0] 27)).alloc (.cells #[.bool false, .slice none 0 0, .slice none 0 0] 27)).alloc (.cells #[.bool false, .slice a0 n0 c0, .slice b0 m0 d0] 27))).cell? ⟨w.heap.size + 1 + 1, 1, none⟩ = some (.slice a0 n0 c0) := by go_simp
        have r12 : ((((w.alloc (.cells #[.bool true, .slice a0 n0 c0, .slice b0 m0 d0] 27)).alloc (.cells #[.bool false, .slice none 0 0, .slice none 0 0] 27)).alloc (.cells #[.bool false, .slice a0 n0 c0, .slice b0 m0 d0] 27))).cell? ⟨w.heap.size + 1 + 1, 2, none⟩ = some (.slice b0 m0 d0) := by go_simp
        have hB : Below w.heap.size w ((((w.alloc (.cells #[.bool true, .slice a0 n0 c0, .slice b0 m0 d0] 27)).alloc (.cells #[.bool false, .slice none 0 0, .slice none 0 0] 27)).alloc (.cells #[.bool false, .slice a0 n0 c0, .slice b0 m0 d0] 27))) := ((((Below.refl _ _).alloc (by (try simp only [World.size_alloc]); omega) _).alloc (by (try simp only [World.size_alloc]); omega) _).alloc (by (try simp only [World.size_alloc]); omega) _)
        have hR0 : Row ((((w.alloc (.cells #[.bool true, .slice a0 n0 c0, .slice b0 m0 d0] 27)).alloc (.cells #[.bool false, .slice none 0 0, .slice none 0 0] 27)).alloc (.cells #[.bool false, .slice a0 n0 c0, .slice b0 m0 d0] 27))) (w.heap.size + 1) := by
          have := row_new ((w.alloc (.cells #[.bool true, .slice a0 n0 c0, .slice b0 m0 d0] 27))) #[.bool false, .slice none 0 0, .slice none 0 0] 27
          try simp only [World.size_alloc] at this
          exact (this.alloc _)
        have hR1 : Row ((((w.alloc (.cells #[.bool true, .slice a0 n0 c0, .slice b0 m0 d0] 27)).alloc (.cells #[.bool false, .slice none 0 0, .slice none 0 0] 27)).alloc (.cells #[.bool false, .slice a0 n0 c0, .slice b0 m0 d0] 27))) (w.heap.size + 1 + 1) := by
          have := row_new (((w.alloc (.cells #[.bool true, .slice a0 n0 c0, .slice b0 m0 d0] 27)).alloc (.cells #[.bool false, .slice none 0 0, .slice none 0 0] 27))) #[.bool false, .slice a0 n0 c0, .slice b0 m0 d0] 27
          try simp only [World.size_alloc] at this
          exact this
        have hz : ((((w.alloc (.cells #[.bool true, .slice a0 n0 c0, .slice b0 m0 d0] 27)).alloc (.cells #[.bool false, .slice none 0 0, .slice none 0 0] 27)).alloc (.cells #[.bool false, .slice a0 n0 c0, .slice b0 m0 d0] 27))).heap.size = w.heap.size + 1 + 1 + 1 := by simp only [World.size_alloc]
        generalize (((w.alloc (.cells #[.bool true, .slice a0 n0 c0, .slice b0 m0 d0] 27)).alloc (.cells #[.bool false, .slice none 0 0, .slice none 0 0] 27)).alloc (.cells #[.bool false, .slice a0 n0 c0, .slice b0 m0 d0] 27)) = W at q00 q01 q02 r00 r01 r02 r10 r11 r12 hR0 hR1 hB hz ⊢
        have hBW : Below W.heap.size W W := Below.refl _ _
        have fz0 := fun o => hR0.frozen o
        go_wp2_with fail
        refine (rBits_any _ _ _ X0 _ (by omega) (sb hS0 hB hBW)).mono ?_
        rintro e w1 ⟨rfl, rfl⟩
        go_wp2_with fail
        refine (rBits_any _ _ _ Y0 _ (by omega) (sb hT0 hB hBW)).mono ?_
        rintro e w1 ⟨rfl, rfl⟩
        have fz0 := fun o => hR0.frozen o
        have fz1 := fun o => hR1.frozen o
        go_wp2
        all_goals refine bodyPost_ret (v := .tuple #[Value.agg #[Value.bool false, Value.slice a0 n0 c0, Value.slice b0 m0 d0], .int .u64 9223372036854775808]) (by rw [results_cell_tmp rfl]; go_simp) rfl ?_
        all_goals exact ⟨rfl, ((bset (bset (bset (hB.trans (hBW.mono hB.size)) (by omega)) (by omega)) (by omega)))⟩

end Go.Proofs.Ytjofldgaefjapaa
