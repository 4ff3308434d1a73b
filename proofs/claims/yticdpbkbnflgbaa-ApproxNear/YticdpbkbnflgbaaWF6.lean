/-
  The reference: quotients by powers of two.
-/
import Derived.Test.YticdpbkbnflgbaaWF4
import Derived.Test.YticdpbkbnflgbaaW13
import Derived.Test.YticdpbkbnflgbaaW14
import Derived.Deep.LoopGhost
namespace Go.Proofs.Yticdpbkbnflgbaa
open Go.RowKit
set_option linter.unusedVariables false

/-- the sign's bit of a number -/
def sI (s : Bool) (X Y : Nat) : Int := if rn s X Y < 0 then 9223372036854775808 else 0
theorem sI_of {s : Bool} {X Y : Nat} (hX : X ≠ 0) (hY : Y ≠ 0) : sI s X Y = if s then 9223372036854775808 else 0 := by
  unfold sI
  have h := rn_lt (s := s) hX hY
  cases s
  · rw [decide_eq_false_iff_not] at h; rw [if_neg h]; rfl
  · rw [decide_eq_true_iff] at h; rw [if_pos h]; rfl
theorem sI_nought {s : Bool} {X Y : Nat} (h : X = 0 ∨ Y = 0) : sI s X Y = 0 := by
  unfold sI; rw [rn_nought h]; rfl
theorem sI_plus (X Y : Nat) : sI false X Y = 0 := by
  unfold sI rn
  rw [if_neg]; split
  · omega
  · unfold sg; simp

set_option maxHeartbeats 4000000 in
set_option maxRecDepth 100000 in
theorem amount_is (s0 : Bool) (a0 : Option Addr) (n0 c0 X0 : Nat) (b0 : Option Addr) (m0 d0 Y0 : Nat)  (w : World) (hc0 : n0 ≤ c0) (hm0 : n0 ≤ 35184372087808) (hS0 : Seg w a0 X0 n0) (hd0 : m0 ≤ d0) (hk0 : m0 ≤ 35184372087808) (hT0 : Seg w b0 Y0 m0)  :
    Calls Try.prog 59 #[Value.agg #[Value.bool s0, Value.slice a0 n0 c0, Value.slice b0 m0 d0]] w fun e w' => e = .returned (.tuple #[.agg #[.bool false, .slice a0 n0 c0, .slice b0 m0 d0], .int .u64 (sI s0 X0 Y0)]) ∧ Below w.heap.size w w' := by
  cases s0
  · rw [sI_plus]
    go_enter Try.func59, Try.ntmps59
    go_upto_region 2 with fail
    obtain ⟨W, hW⟩ : ∃ W, (((w.alloc (.cells #[.bool false, .slice a0 n0 c0, .slice b0 m0 d0] 27)).alloc (.cells #[.bool false, .slice none 0 0, .slice none 0 0] 27)).alloc (.cells #[.bool false, .slice a0 n0 c0, .slice b0 m0 d0] 27)) = W := ⟨_, rfl⟩
    have q00 : W.cell? ⟨w.heap.size, 0, none⟩ = some (.bool false) := by subst hW; go_simp
    have q01 : W.cell? ⟨w.heap.size, 1, none⟩ = some (.slice a0 n0 c0) := by subst hW; go_simp
    have q02 : W.cell? ⟨w.heap.size, 2, none⟩ = some (.slice b0 m0 d0) := by subst hW; go_simp
    have r00 : W.cell? ⟨w.heap.size + 1, 0, none⟩ = some (.bool false) := by subst hW; go_simp
    have r01 : W.cell? ⟨w.heap.size + 1, 1, none⟩ = some (.slice none 0 0) := by subst hW; go_simp
    have r02 : W.cell? ⟨w.heap.size + 1, 2, none⟩ = some (.slice none 0 0) := by subst hW; go_simp
    have r10 : W.cell? ⟨w.heap.size + 1 + 1, 0, none⟩ = some (.bool false) := by subst hW; go_simp
    have r11 : W.cell? ⟨w.heap.size + 1 + 1, 1, none⟩ = some (.slice a0 n0 c0) := by subst hW; go_simp
    have r12 : W.cell? ⟨w.heap.size + 1 + 1, 2, none⟩ = some (.slice b0 m0 d0) := by subst hW; go_simp
    have hB : Below w.heap.size w W := by subst hW; exact ((((Below.refl _ _).alloc (by (try simp only [World.size_alloc]); omega) _).alloc (by (try simp only [World.size_alloc]); omega) _).alloc (by (try simp only [World.size_alloc]); omega) _)
    have hR0 : Row W (w.heap.size + 1) := by
      have := row_new ((w.alloc (.cells #[.bool false, .slice a0 n0 c0, .slice b0 m0 d0] 27))) #[.bool false, .slice none 0 0, .slice none 0 0] 27
      try simp only [World.size_alloc] at this
      subst hW; exact (this.alloc _)
    have hR1 : Row W (w.heap.size + 1 + 1) := by
      have := row_new (((w.alloc (.cells #[.bool false, .slice a0 n0 c0, .slice b0 m0 d0] 27)).alloc (.cells #[.bool false, .slice none 0 0, .slice none 0 0] 27))) #[.bool false, .slice a0 n0 c0, .slice b0 m0 d0] 27
      try simp only [World.size_alloc] at this
      subst hW; exact this
    have hz : W.heap.size = w.heap.size + 1 + 1 + 1 := by subst hW; simp only [World.size_alloc]
    rw [hW]
    clear hW
    have hBW : Below W.heap.size W W := Below.refl _ _
    have fz0 := fun o => hR0.frozen o
    have fz0 := fun o => hR0.frozen o
    have fz1 := fun o => hR1.frozen o
    go_wp2
    all_goals refine bodyPost_ret (v := .tuple #[Value.agg #[Value.bool false, Value.slice a0 n0 c0, Value.slice b0 m0 d0], .int .u64 0]) (by rw [results_cell_tmp rfl]; go_simp) rfl ?_
    all_goals exact ⟨rfl, ((bset (bset (bset (hB.trans (hBW.mono hB.size)) (by omega)) (by omega)) (by omega)))⟩
  · by_cases hX : X0 = 0
    · rw [sI_nought (Or.inl hX)]
      have hbx : bl X0 = 0 := by rw [hX]; exact bl_zero
      clear hX
      go_enter Try.func59, Try.ntmps59
      go_upto_region 2 with fail
      obtain ⟨W, hW⟩ : ∃ W, (((w.alloc (.cells #[.bool true, .slice a0 n0 c0, .slice b0 m0 d0] 27)).alloc (.cells #[.bool false, .slice none 0 0, .slice none 0 0] 27)).alloc (.cells #[.bool false, .slice a0 n0 c0, .slice b0 m0 d0] 27)) = W := ⟨_, rfl⟩
      have q00 : W.cell? ⟨w.heap.size, 0, none⟩ = some (.bool true) := by subst hW; go_simp
      have q01 : W.cell? ⟨w.heap.size, 1, none⟩ = some (.slice a0 n0 c0) := by subst hW; go_simp
      have q02 : W.cell? ⟨w.heap.size, 2, none⟩ = some (.slice b0 m0 d0) := by subst hW; go_simp
      have r00 : W.cell? ⟨w.heap.size + 1, 0, none⟩ = some (.bool false) := by subst hW; go_simp
      have r01 : W.cell? ⟨w.heap.size + 1, 1, none⟩ = some (.slice none 0 0) := by subst hW; go_simp
      have r02 : W.cell? ⟨w.heap.size + 1, 2, none⟩ = some (.slice none 0 0) := by subst hW; go_simp
      have r10 : W.cell? ⟨w.heap.size + 1 + 1, 0, none⟩ = some (.bool false) := by subst hW; go_simp
      have r11 : W.cell? ⟨w.heap.size + 1 + 1, 1, none⟩ = some (.slice a0 n0 c0) := by subst hW; go_simp
      have r12 : W.cell? ⟨w.heap.size + 1 + 1, 2, none⟩ = some (.slice b0 m0 d0) := by subst hW; go_simp
      have hB : Below w.heap.size w W := by subst hW; exact ((((Below.refl _ _).alloc (by (try simp only [World.size_alloc]); omega) _).alloc (by (try simp only [World.size_alloc]); omega) _).alloc (by (try simp only [World.size_alloc]); omega) _)
      have hR0 : Row W (w.heap.size + 1) := by
        have := row_new ((w.alloc (.cells #[.bool true, .slice a0 n0 c0, .slice b0 m0 d0] 27))) #[.bool false, .slice none 0 0, .slice none 0 0] 27
        try simp only [World.size_alloc] at this
        subst hW; exact (this.alloc _)
      have hR1 : Row W (w.heap.size + 1 + 1) := by
        have := row_new (((w.alloc (.cells #[.bool true, .slice a0 n0 c0, .slice b0 m0 d0] 27)).alloc (.cells #[.bool false, .slice none 0 0, .slice none 0 0] 27))) #[.bool false, .slice a0 n0 c0, .slice b0 m0 d0] 27
        try simp only [World.size_alloc] at this
        subst hW; exact this
      have hz : W.heap.size = w.heap.size + 1 + 1 + 1 := by subst hW; simp only [World.size_alloc]
      rw [hW]
      clear hW
      have hBW : Below W.heap.size W W := Below.refl _ _
      have fz0 := fun o => hR0.frozen o
      go_wp2_with fail
      refine (rBits_any _ _ _ X0 _ (by omega) (sb hS0 hB hBW)).mono ?_
      rintro e w1 ⟨rfl, rfl⟩
      have fz0 := fun o => hR0.frozen o
      have fz1 := fun o => hR1.frozen o
      go_wp2
      all_goals refine bodyPost_ret (v := .tuple #[Value.agg #[Value.bool false, Value.slice a0 n0 c0, Value.slice b0 m0 d0], .int .u64 0]) (by rw [results_cell_tmp rfl]; go_simp) rfl ?_
      all_goals exact ⟨rfl, ((bset (bset (bset (hB.trans (hBW.mono hB.size)) (by omega)) (by omega)) (by omega)))⟩
    · by_cases hY : Y0 = 0
      · rw [sI_nought (Or.inr hY)]
        have hbx : 0 < bl X0 := by rw [bl_pos hX]; omega
        have hby : bl Y0 = 0 := by rw [hY]; exact bl_zero
        clear hX hY
        go_enter Try.func59, Try.ntmps59
        go_upto_region 2 with fail
        obtain ⟨W, hW⟩ : ∃ W, (((w.alloc (.cells #[.bool true, .slice a0 n0 c0, .slice b0 m0 d0] 27)).alloc (.cells #[.bool false, .slice none 0 0, .slice none 0 0] 27)).alloc (.cells #[.bool false, .slice a0 n0 c0, .slice b0 m0 d0] 27)) = W := ⟨_, rfl⟩
        have q00 : W.cell? ⟨w.heap.size, 0, none⟩ = some (.bool true) := by subst hW; go_simp
        have q01 : W.cell? ⟨w.heap.size, 1, none⟩ = some (.slice a0 n0 c0) := by subst hW; go_simp
        have q02 : W.cell? ⟨w.heap.size, 2, none⟩ = some (.slice b0 m0 d0) := by subst hW; go_simp
        have r00 : W.cell? ⟨w.heap.size + 1, 0, none⟩ = some (.bool false) := by subst hW; go_simp
        have r01 : W.cell? ⟨w.heap.size + 1, 1, none⟩ = some (.slice none 0 0) := by subst hW; go_simp
        have r02 : W.cell? ⟨w.heap.size + 1, 2, none⟩ = some (.slice none 0 0) := by subst hW; go_simp
        have r10 : W.cell? ⟨w.heap.size + 1 + 1, 0, none⟩ = some (.bool false) := by subst hW; go_simp
        have r11 : W.cell? ⟨w.heap.size + 1 + 1, 1, none⟩ = some (.slice a0 n0 c0) := by subst hW; go_simp
        have r12 : W.cell? ⟨w.heap.size + 1 + 1, 2, none⟩ = some (.slice b0 m0 d0) := by subst hW; go_simp
        have hB : Below w.heap.size w W := by subst hW; exact ((((Below.refl _ _).alloc (by (try simp only [World.size_alloc]); omega) _).alloc (by (try simp only [World.size_alloc]); omega) _).alloc (by (try simp only [World.size_alloc]); omega) _)
        have hR0 : Row W (w.heap.size + 1) := by
          have := row_new ((w.alloc (.cells #[.bool true, .slice a0 n0 c0, .slice b0 m0 d0] 27))) #[.bool false, .slice none 0 0, .slice none 0 0] 27
          try simp only [World.size_alloc] at this
          subst hW; exact (this.alloc _)
        have hR1 : Row W (w.heap.size + 1 + 1) := by
          have := row_new (((w.alloc (.cells #[.bool true, .slice a0 n0 c0, .slice b0 m0 d0] 27)).alloc (.cells #[.bool false, .slice none 0 0, .slice none 0 0] 27))) #[.bool false, .slice a0 n0 c0, .slice b0 m0 d0] 27
          try simp only [World.size_alloc] at this
          subst hW; exact this
        have hz : W.heap.size = w.heap.size + 1 + 1 + 1 := by subst hW; simp only [World.size_alloc]
        rw [hW]
        clear hW
        have hBW : Below W.heap.size W W := Below.refl _ _
        have fz0 := fun o => hR0.frozen o
        go_wp2_with fail
        refine (rBits_any _ _ _ X0 _ (by omega) (sb hS0 hB hBW)).mono ?_
        rintro e w1 ⟨rfl, rfl⟩
        go_wp2_with fail
        refine (rBits_any _ _ _ Y0 _ (by omega) (sb hT0 hB hBW)).mono ?_
        rintro e w1 ⟨rfl, rfl⟩
        have fz0 := fun o => hR0.frozen o
        have fz1 := fun o => hR1.frozen o
        go_wp2
        all_goals refine bodyPost_ret (v := .tuple #[Value.agg #[Value.bool false, Value.slice a0 n0 c0, Value.slice b0 m0 d0], .int .u64 0]) (by rw [results_cell_tmp rfl]; go_simp) rfl ?_
        all_goals exact ⟨rfl, ((bset (bset (bset (hB.trans (hBW.mono hB.size)) (by omega)) (by omega)) (by omega)))⟩
      · rw [sI_of hX hY]
        rw [if_pos rfl]
        have hbx : 0 < bl X0 := by rw [bl_pos hX]; omega
        have hby : 0 < bl Y0 := by rw [bl_pos hY]; omega
        clear hX hY
        go_enter Try.func59, Try.ntmps59
        go_upto_region 2 with fail
        obtain ⟨W, hW⟩ : ∃ W, (((w.alloc (.cells #[.bool true, .slice a0 n0 c0, .slice b0 m0 d0] 27)).alloc (.cells #[.bool false, .slice none 0 0, .slice none 0 0] 27)).alloc (.cells #[.bool false, .slice a0 n0 c0, .slice b0 m0 d0] 27)) = W := ⟨_, rfl⟩
        have q00 : W.cell? ⟨w.heap.size, 0, none⟩ = some (.bool true) := by subst hW; go_simp
        have q01 : W.cell? ⟨w.heap.size, 1, none⟩ = some (.slice a0 n0 c0) := by subst hW; go_simp
        have q02 : W.cell? ⟨w.heap.size, 2, none⟩ = some (.slice b0 m0 d0) := by subst hW; go_simp
        have r00 : W.cell? ⟨w.heap.size + 1, 0, none⟩ = some (.bool false) := by subst hW; go_simp
        have r01 : W.cell? ⟨w.heap.size + 1, 1, none⟩ = some (.slice none 0 0) := by subst hW; go_simp
        have r02 : W.cell? ⟨w.heap.size + 1, 2, none⟩ = some (.slice none 0 0) := by subst hW; go_simp
        have r10 : W.cell? ⟨w.heap.size + 1 + 1, 0, none⟩ = some (.bool false) := by subst hW; go_simp
        have r11 : W.cell? ⟨w.heap.size + 1 + 1, 1, none⟩ = some (.slice a0 n0 c0) := by subst hW; go_simp
        have r12 : W.cell? ⟨w.heap.size + 1 + 1, 2, none⟩ = some (.slice b0 m0 d0) := by subst hW; go_simp
        have hB : Below w.heap.size w W := by subst hW; exact ((((Below.refl _ _).alloc (by (try simp only [World.size_alloc]); omega) _).alloc (by (try simp only [World.size_alloc]); omega) _).alloc (by (try simp only [World.size_alloc]); omega) _)
        have hR0 : Row W (w.heap.size + 1) := by
          have := row_new ((w.alloc (.cells #[.bool true, .slice a0 n0 c0, .slice b0 m0 d0] 27))) #[.bool false, .slice none 0 0, .slice none 0 0] 27
          try simp only [World.size_alloc] at this
          subst hW; exact (this.alloc _)
        have hR1 : Row W (w.heap.size + 1 + 1) := by
          have := row_new (((w.alloc (.cells #[.bool true, .slice a0 n0 c0, .slice b0 m0 d0] 27)).alloc (.cells #[.bool false, .slice none 0 0, .slice none 0 0] 27))) #[.bool false, .slice a0 n0 c0, .slice b0 m0 d0] 27
          try simp only [World.size_alloc] at this
          subst hW; exact this
        have hz : W.heap.size = w.heap.size + 1 + 1 + 1 := by subst hW; simp only [World.size_alloc]
        rw [hW]
        clear hW
        have hBW : Below W.heap.size W W := Below.refl _ _
        have fz0 := fun o => hR0.frozen o
        go_wp2_with fail
        refine (rBits_any _ _ _ X0 _ (by omega) (sb hS0 hB hBW)).mono ?_
        rintro e w1 ⟨rfl, rfl⟩
        go_wp2_with fail
        refine (rBits_any _ _ _ Y0 _ (by omega) (sb hT0 hB hBW)).mono ?_
        rintro e w1 ⟨rfl, rfl⟩
        have fz0 := fun o => hR0.frozen o
        have fz1 := fun o => hR1.frozen o
        go_wp2
        all_goals refine bodyPost_ret (v := .tuple #[Value.agg #[Value.bool false, Value.slice a0 n0 c0, Value.slice b0 m0 d0], .int .u64 9223372036854775808]) (by rw [results_cell_tmp rfl]; go_simp) rfl ?_
        all_goals exact ⟨rfl, ((bset (bset (bset (hB.trans (hBW.mono hB.size)) (by omega)) (by omega)) (by omega)))⟩

end Go.Proofs.Yticdpbkbnflgbaa

namespace Go.Proofs.Yticdpbkbnflgbaa
open Go.RowKit
set_option linter.unusedVariables false

set_option maxHeartbeats 4000000 in
set_option maxRecDepth 100000 in
theorem quotient_is (a0 : Option Addr) (n0 c0 X0 : Nat) (b0 : Option Addr) (m0 d0 Y0 : Nat) (z e Q L : Nat) (x : Int) (w : World) (hc0 : n0 ≤ c0) (hm0 : n0 ≤ 35184372087808) (hS0 : Seg w a0 X0 n0) (hd0 : m0 ≤ d0) (hk0 : m0 ≤ 35184372087808) (hT0 : Seg w b0 Y0 m0) (hz : z = 1074) (hX : X0 ≠ 0) (hY : Y0 ≠ 0) (he : e ≤ 4000) (hx : x = (e : Int) - 1074) (hQ : quo z X0 Y0 e = Q) (hL : lef z X0 Y0 e = L) :
    Calls Try.prog 89 #[Value.agg #[Value.bool false, Value.slice a0 n0 c0, Value.slice b0 m0 d0], .int .i64 x] w fun r w' => ∃ aq, r = .returned (.tuple #[.slice aq (ln Q) (ln Q), .bool (decide (L = 0))]) ∧ New w w' aq Q (ln Q) := by
  have hU := lef_lt (D := Y0) (by omega) z X0 e
  have hE := quo_eq z X0 Y0 e
  obtain ⟨P, hP⟩ : ∃ P, X0 * 2 ^ (z - e) = P := ⟨_, rfl⟩
  obtain ⟨U, hUd⟩ : ∃ U, Y0 * 2 ^ (e - z) = U := ⟨_, rfl⟩
  rw [hUd] at hU hE
  rw [hP, hQ, hL] at hE
  rw [hL] at hU
  have lP : ln P ≤ n0 + 1074 := by rw [← hP]; have := ln_shift (s := z - e) hS0.1; omega
  have lU : ln U ≤ m0 + 2926 := by rw [← hUd]; have := ln_shift (s := e - z) hT0.1; omega
  have lL : ln L ≤ ln U := ln_mono (Nat.le_of_lt hU)
  have hbl : (((bl L : Nat) : Int) == 0) = decide (L = 0) := by
    by_cases h : L = 0
    · rw [decide_eq_true h, h, bl_zero]; rfl
    · rw [decide_eq_false h, beq_eq_false_iff_ne, bl_pos h]; omega
  have hU0 : U ≠ 0 := by omega
  have hE' := hide' hE
  have hU' := hide' hU
  have hX' := hide' hX
  have hY' := hide' hY
  clear hE hU hX hY hQ hL
  by_cases hn : e < 1074
  · obtain ⟨y, hy⟩ : ∃ y : Nat, y = z - e := ⟨_, rfl⟩
    have h0 : U = Y0 := by rw [← hUd, show e - z = 0 by omega, Nat.pow_zero, Nat.mul_one]
    have H1 := hide' (fun w' k => rShift_up a0 n0 c0 X0 y w' (by omega) (by omega) k hX'.out)
    rw [hy, hP] at H1
    have hxn : x = -((z - e : Nat) : Int) := by omega
    have hy0 : 0 < z - e := by omega
    have hyb : z - e ≤ 1074 := by omega
    generalize z - e = y at H1 hxn hy0 hyb
    rw [hxn]
    have hxl : (-(y : Int) < 0) = True := eq_true (by omega)
    clear hxn
    rw [h0] at hE' hU' hU0
    have H2 := hide' (fun w' p k1 k2 => rDiv_is p b0 (ln P) (ln P) P m0 d0 Y0 Q L w' (by omega) k1 (by omega) k2 hE'.out hU'.out)
    clear hy hP hUd h0 hn
    clear hz he hx
    go_enter Try.func89, Try.ntmps89
    go_upto_region 1 with fail
    obtain ⟨W, hW⟩ : ∃ W, (w.alloc (.cells #[.bool false, .slice a0 n0 c0, .slice b0 m0 d0] 27)) = W := ⟨_, rfl⟩
    have q00 : W.cell? ⟨w.heap.size, 0, none⟩ = some (.bool false) := by subst hW; go_simp
    have q01 : W.cell? ⟨w.heap.size, 1, none⟩ = some (.slice a0 n0 c0) := by subst hW; go_simp
    have q02 : W.cell? ⟨w.heap.size, 2, none⟩ = some (.slice b0 m0 d0) := by subst hW; go_simp
    have hB : Below w.heap.size w W := by subst hW; exact ((Below.refl _ _).alloc (by (try simp only [World.size_alloc]); omega) _)
    have hz : W.heap.size = w.heap.size + 1 := by subst hW; simp only [World.size_alloc]
    rw [hW]
    clear hW
    have hBW : Below W.heap.size W W := Below.refl _ _
    go_wp2_with fail
    refine (H1.out _ (sb hS0 hB hBW)).mono ?_
    rintro e1 w1 ⟨a1, rfl, h1⟩
    have b1 := h1.below
    replace h1 := h1.back hBW
    replace hBW := hBW.trans (b1.mono hBW.size)
    replace q00 := below_cell b1 q00
    replace q01 := below_cell b1 q01
    replace q02 := below_cell b1 q02
    go_wp2_with fail
    refine (H2.out _ _ h1.seg (sb hT0 hB hBW)).mono ?_
    rintro e w2 ⟨aq, ar, rfl, hq, hr⟩
    have b2 := hq.below
    replace hq := hq.back hBW
    replace hr := hr.back hBW
    replace hBW := hBW.trans (b2.mono hBW.size)
    replace q00 := below_cell b2 q00
    replace q01 := below_cell b2 q01
    replace q02 := below_cell b2 q02
    replace h1 := h1.later b2
    go_wp2_with fail
    refine (rBits_any _ _ _ L _ (by omega) hr.seg).mono ?_
    rintro e3 w3 ⟨rfl, rfl⟩
    go_wp2
    go_ret2
    exact ⟨aq, rfl, hq.mid hB (Mid.refl _ _ _)⟩
  · obtain ⟨y, hy⟩ : ∃ y : Nat, y = e - z := ⟨_, rfl⟩
    have h0 : P = X0 := by rw [← hP, show z - e = 0 by omega, Nat.pow_zero, Nat.mul_one]
    have H1 := hide' (fun w' k => rShift_up b0 m0 d0 Y0 y w' (by omega) (by omega) k hY'.out)
    rw [hy, hUd] at H1
    have hxn : x = ((e - z : Nat) : Int) := by omega
    have hyb : e - z ≤ 4000 := by omega
    generalize e - z = y at H1 hxn hyb
    rw [hxn]
    have hxl : ((y : Int) < 0) = False := eq_false (by omega)
    rw [h0] at hE'
    have H2 := hide' (fun w' p k1 k2 => rDiv_is a0 p n0 c0 X0 (ln U) (ln U) U Q L w' (by omega) k1 (by omega) k2 hE'.out hU'.out)
    clear hy hP hUd h0 hn hx hxn
    clear hz he
    go_enter Try.func89, Try.ntmps89
    go_upto_region 1 with fail
    obtain ⟨W, hW⟩ : ∃ W, (w.alloc (.cells #[.bool false, .slice a0 n0 c0, .slice b0 m0 d0] 27)) = W := ⟨_, rfl⟩
    have q00 : W.cell? ⟨w.heap.size, 0, none⟩ = some (.bool false) := by subst hW; go_simp
    have q01 : W.cell? ⟨w.heap.size, 1, none⟩ = some (.slice a0 n0 c0) := by subst hW; go_simp
    have q02 : W.cell? ⟨w.heap.size, 2, none⟩ = some (.slice b0 m0 d0) := by subst hW; go_simp
    have hB : Below w.heap.size w W := by subst hW; exact ((Below.refl _ _).alloc (by (try simp only [World.size_alloc]); omega) _)
    have hz : W.heap.size = w.heap.size + 1 := by subst hW; simp only [World.size_alloc]
    rw [hW]
    clear hW
    have hBW : Below W.heap.size W W := Below.refl _ _
    go_wp2_with fail
    refine (H1.out _ (sb hT0 hB hBW)).mono ?_
    rintro e1 w1 ⟨a1, rfl, h1⟩
    have b1 := h1.below
    replace h1 := h1.back hBW
    replace hBW := hBW.trans (b1.mono hBW.size)
    replace q00 := below_cell b1 q00
    replace q01 := below_cell b1 q01
    replace q02 := below_cell b1 q02
    go_wp2_with fail
    refine (H2.out _ _ (sb hS0 hB hBW) h1.seg).mono ?_
    rintro e w2 ⟨aq, ar, rfl, hq, hr⟩
    have b2 := hq.below
    replace hq := hq.back hBW
    replace hr := hr.back hBW
    replace hBW := hBW.trans (b2.mono hBW.size)
    replace q00 := below_cell b2 q00
    replace q01 := below_cell b2 q01
    replace q02 := below_cell b2 q02
    replace h1 := h1.later b2
    go_wp2_with fail
    refine (rBits_any _ _ _ L _ (by omega) hr.seg).mono ?_
    rintro e3 w3 ⟨rfl, rfl⟩
    go_wp2
    go_ret2
    exact ⟨aq, rfl, hq.mid hB (Mid.refl _ _ _)⟩
end Go.Proofs.Yticdpbkbnflgbaa
