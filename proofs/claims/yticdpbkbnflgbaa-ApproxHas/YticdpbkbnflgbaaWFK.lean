/-
  Spans: the reference's In.
-/
import Derived.Test.YticdpbkbnflgbaaWFJ
namespace Go.Proofs.Yticdpbkbnflgbaa
open Go.RowKit
set_option linter.unusedVariables false

set_option maxHeartbeats 4000000 in
set_option maxRecDepth 100000 in
theorem vIn_is (s0 : Bool) (a0 : Option Addr) (n0 c0 X0 : Nat) (b0 : Option Addr) (m0 d0 Y0 : Nat) (a b z T : Nat) (c : Bool) (w : World) (hc0 : n0 ≤ c0) (hm0 : n0 ≤ 35184372087808) (hS0 : Seg w a0 X0 n0) (hd0 : m0 ≤ d0) (hk0 : m0 ≤ 35184372087808) (hT0 : Seg w b0 Y0 m0) (hz : z = 1074) (hT : T = 2 ^ z) (ha : a < 18446744073709551616) (hb : b < 18446744073709551616) (hc : inB T (rn s0 X0 Y0) (rd Y0) a b = c) :
    Calls Try.prog 11 #[Value.agg #[Value.bool s0, Value.slice a0 n0 c0, Value.slice b0 m0 d0], Value.agg #[Value.float .f64 a, Value.float .f64 b]] w fun e w' => e = .returned (.bool c) ∧ Below w.heap.size w w' := by
  obtain ⟨v, hv⟩ : ∃ v, vaB a b = v := ⟨_, rfl⟩
  have HV := hide' (fun w' => vValid_is a b v w' ha hb hv)
  have hvv : v = true → a % SB ≤ FI ∧ b % SB ≤ FI ∧ a ≠ FI ∧ b ≠ SB + FI := fun h => by rw [← hv] at h; unfold vaB at h; rw [decide_eq_true_iff] at h; exact ⟨h.1, h.2.1, h.2.2.2.1, h.2.2.2.2⟩
  have hD := rd_pos Y0
  have hTn : (T : Int) ≠ 0 := by rw [hT]; have := Nat.two_pow_pos z; omega
  obtain ⟨Z, V, hL⟩ := low_ex (rn s0 X0 Y0) ((rd Y0 : Nat) : Int) (rd_ne Y0)
  have hp := hL.pos
  obtain ⟨lz, lv⟩ := ln1 hL (Nat.lt_of_le_of_lt (rn_am s0 X0 Y0) hS0.1) (by rw [am_nat]; exact rd_lt hT0.1) (k := 35184372087809) (by omega) (by omega)
  have HM := hide' (fun w' k1 k2 => vqNorm_is s0 a0 n0 c0 X0 b0 m0 d0 Y0 V Z w' (by omega) k1 (by omega) k2 hL)
  unfold inB at hc
  rw [hv] at hc
  clear hv
  cases v
  · have hcf : c = false := hc.symm
    subst hcf
    clear hc hvv hL hp hz hT hTn hD
    go_enter Try.func11, Try.ntmps11
    go_wp2_with fail
    obtain ⟨W, hW⟩ : ∃ W, ((w.alloc (.cells #[.bool s0, .slice a0 n0 c0, .slice b0 m0 d0] 27)).alloc (.cells #[.float .f64 a, .float .f64 b] 30)) = W := ⟨_, rfl⟩
    have q00 : W.cell? ⟨w.heap.size, 0, none⟩ = some (.bool s0) := by subst hW; go_simp
    have q01 : W.cell? ⟨w.heap.size, 1, none⟩ = some (.slice a0 n0 c0) := by subst hW; go_simp
    have q02 : W.cell? ⟨w.heap.size, 2, none⟩ = some (.slice b0 m0 d0) := by subst hW; go_simp
    have q10 : W.cell? ⟨w.heap.size + 1, 0, none⟩ = some (.float .f64 a) := by subst hW; go_simp
    have q11 : W.cell? ⟨w.heap.size + 1, 1, none⟩ = some (.float .f64 b) := by subst hW; go_simp
    have hB : Below w.heap.size w W := by subst hW; exact (((Below.refl _ _).alloc (by (try simp only [World.size_alloc]); omega) _).alloc (by (try simp only [World.size_alloc]); omega) _)
    have hz : W.heap.size = w.heap.size + 1 + 1 := by subst hW; simp only [World.size_alloc]
    rw [hW]
    clear hW
    have hBW : Below W.heap.size W W := Below.refl _ _
    refine (HM.out _ (sb hS0 hB hBW) (sb hT0 hB hBW)).mono ?_
    rintro e w5 ⟨p5, q5, rfl, hp5, hq5⟩
    have b5 := hp5.below
    replace hp5 := hp5.back hBW
    replace hq5 := hq5.back hBW
    replace hBW := hBW.trans (b5.mono hBW.size)
    replace q00 := below_cell b5 q00
    replace q01 := below_cell b5 q01
    replace q02 := below_cell b5 q02
    replace q10 := below_cell b5 q10
    replace q11 := below_cell b5 q11
    have hsz5 := hBW.size
    have l500 : ((w5.alloc (.cells #[.int .i64 0, .bool (ng Z), .slice p5 (ln (am Z)) (ln (am Z)), .slice q5 (ln V) (ln V)] 56))).cell? ⟨w5.heap.size, 0, none⟩ = some (.int .i64 0) := by go_simp
    have l501 : ((w5.alloc (.cells #[.int .i64 0, .bool (ng Z), .slice p5 (ln (am Z)) (ln (am Z)), .slice q5 (ln V) (ln V)] 56))).cell? ⟨w5.heap.size, 1, none⟩ = some (.bool (ng Z)) := by go_simp
    have l502 : ((w5.alloc (.cells #[.int .i64 0, .bool (ng Z), .slice p5 (ln (am Z)) (ln (am Z)), .slice q5 (ln V) (ln V)] 56))).cell? ⟨w5.heap.size, 2, none⟩ = some (.slice p5 (ln (am Z)) (ln (am Z))) := by go_simp
    have l503 : ((w5.alloc (.cells #[.int .i64 0, .bool (ng Z), .slice p5 (ln (am Z)) (ln (am Z)), .slice q5 (ln V) (ln V)] 56))).cell? ⟨w5.heap.size, 3, none⟩ = some (.slice q5 (ln V) (ln V)) := by go_simp
    have cb5 : Below w5.heap.size w5 ((w5.alloc (.cells #[.int .i64 0, .bool (ng Z), .slice p5 (ln (am Z)) (ln (am Z)), .slice q5 (ln V) (ln V)] 56))) := ((Below.refl _ _).alloc (by (try simp only [World.size_alloc]); omega) _)
    replace hBW := hBW.trans (cb5.mono hBW.size)
    replace q00 := below_cell cb5 q00
    replace q01 := below_cell cb5 q01
    replace q02 := below_cell cb5 q02
    replace q10 := below_cell cb5 q10
    replace q11 := below_cell cb5 q11
    replace hp5 := hp5.later cb5
    replace hq5 := hq5.later cb5
    have hL50 : Row ((w5.alloc (.cells #[.int .i64 0, .bool (ng Z), .slice p5 (ln (am Z)) (ln (am Z)), .slice q5 (ln V) (ln V)] 56))) (w5.heap.size) := by
      have := row_new (w5) #[.int .i64 0, .bool (ng Z), .slice p5 (ln (am Z)) (ln (am Z)), .slice q5 (ln V) (ln V)] 56
      try simp only [World.size_alloc] at this
      exact this
    go_wp2_with fail
    generalize (w5.alloc (.cells #[.int .i64 0, .bool (ng Z), .slice p5 (ln (am Z)) (ln (am Z)), .slice q5 (ln V) (ln V)] 56)) = w5x at q00 q01 q02 q10 q11 l500 l501 l502 l503 hL50 hp5 hq5 hBW cb5 ⊢
    clear cb5
    replace hBW := hBW.drew
    replace hp5 := hp5.drew
    replace hq5 := hq5.drew
    refine wp_region_held_drew (S := (fun w' => w'.cell? ⟨w.heap.size, 0, none⟩ = some (.bool s0) ∧ w'.cell? ⟨w.heap.size, 1, none⟩ = some (.slice a0 n0 c0) ∧ w'.cell? ⟨w.heap.size, 2, none⟩ = some (.slice b0 m0 d0) ∧ w'.cell? ⟨w.heap.size + 1, 0, none⟩ = some (.float .f64 a) ∧ w'.cell? ⟨w.heap.size + 1, 1, none⟩ = some (.float .f64 b) ∧ w'.cell? ⟨w5.heap.size, 0, none⟩ = some (.int .i64 0) ∧ w'.cell? ⟨w5.heap.size, 1, none⟩ = some (.bool (ng Z)) ∧ w'.cell? ⟨w5.heap.size, 2, none⟩ = some (.slice p5 (ln (am Z)) (ln (am Z))) ∧ w'.cell? ⟨w5.heap.size, 3, none⟩ = some (.slice q5 (ln V) (ln V)) ∧ Below w.heap.size w w')) (by kernel_rfl) ⟨q00, q01, q02, q10, q11, l500, l501, l502, l503, hB.trans (hBW.mono hB.size)⟩ (fun hHeld => ?_)
    refine take' 0 (v := ?_) rfl (by kernel_rfl) (by kernel_rfl) (by kernel_rfl) (fun _ _ _ h => h) (Or.inl ⟨by rfl, ?_⟩) (by assumption) ?_
    rotate_left
    · intro w9 hSw
      go_simp
      first | done | with_reducible rfl
    simp only [Act.put, List.setIfInBounds_toArray, List.set_cons_zero, List.set_cons_succ]
    refine wpAnyH_ready (rs := [1]) (by kernel_rfl) (by simp) ?_
    refine cons' rfl (fun K hK => ?_)
    go_simp
    refine (HV.out _).mono ?_
    rintro e w6 ⟨rfl, bb6⟩
    have b6 := bb6
    go_wp2_with fail
    refine hK.out _ _ (kp9 b6 hHeld) ?_
    clear hHeld
    intro hHeld
    clear hK K
    replace hBW := hBW.trans (b6.mono hBW.size)
    replace q00 := below_cell b6 q00
    replace q01 := below_cell b6 q01
    replace q02 := below_cell b6 q02
    replace q10 := below_cell b6 q10
    replace q11 := below_cell b6 q11
    replace l500 := below_cell b6 l500
    replace l501 := below_cell b6 l501
    replace l502 := below_cell b6 l502
    replace l503 := below_cell b6 l503
    replace hL50 := below_row b6 hL50
    replace hp5 := hp5.later b6
    replace hq5 := hq5.later b6
    refine take' 2 (v := ?_) rfl (by kernel_rfl) (by kernel_rfl) (by kernel_rfl) (fun _ _ _ h => h) (Or.inl ⟨by rfl, ?_⟩) (by assumption) ?_
    rotate_left
    · intro w9 hSw
      go_simp
      first | done | with_reducible rfl
    simp only [Act.put, List.setIfInBounds_toArray, List.set_cons_zero, List.set_cons_succ]
    refine take' 3 (v := undef) rfl (by kernel_rfl) (by kernel_rfl) (by kernel_rfl) (fun _ _ _ h => h) (Or.inr ⟨by rfl, rfl⟩) (by assumption) ?_
    simp only [Act.put, List.setIfInBounds_toArray, List.set_cons_zero, List.set_cons_succ]
    refine take' 4 (v := undef) rfl (by kernel_rfl) (by kernel_rfl) (by kernel_rfl) (fun _ _ _ h => h) (Or.inr ⟨by rfl, rfl⟩) (by assumption) ?_
    simp only [Act.put, List.setIfInBounds_toArray, List.set_cons_zero, List.set_cons_succ]
    refine take' 5 (v := undef) rfl (by kernel_rfl) (by kernel_rfl) (by kernel_rfl) (fun _ _ _ h => h) (Or.inr ⟨by rfl, rfl⟩) (by assumption) ?_
    simp only [Act.put, List.setIfInBounds_toArray, List.set_cons_zero, List.set_cons_succ]
    refine take' 6 (v := undef) rfl (by kernel_rfl) (by kernel_rfl) (by kernel_rfl) (fun _ _ _ h => h) (Or.inr ⟨by rfl, rfl⟩) (by assumption) ?_
    simp only [Act.put, List.setIfInBounds_toArray, List.set_cons_zero, List.set_cons_succ]
    refine take' 7 (v := undef) rfl (by kernel_rfl) (by kernel_rfl) (by kernel_rfl) (fun _ _ _ h => h) (Or.inr ⟨by rfl, rfl⟩) (by assumption) ?_
    simp only [Act.put, List.setIfInBounds_toArray, List.set_cons_zero, List.set_cons_succ]
    refine take' 8 (v := undef) rfl (by kernel_rfl) (by kernel_rfl) (by kernel_rfl) (fun _ _ _ h => h) (Or.inr ⟨by rfl, rfl⟩) (by assumption) ?_
    simp only [Act.put, List.setIfInBounds_toArray, List.set_cons_zero, List.set_cons_succ]
    refine take' 9 (v := ?_) rfl (by kernel_rfl) (by kernel_rfl) (by kernel_rfl) (fun _ _ _ h => h) (Or.inl ⟨by rfl, ?_⟩) (by assumption) ?_
    rotate_left
    · intro w9 hSw
      go_simp
      first | done | with_reducible rfl
    simp only [Act.put, List.setIfInBounds_toArray, List.set_cons_zero, List.set_cons_succ]
    refine take' 10 (v := ?_) rfl (by kernel_rfl) (by kernel_rfl) (by kernel_rfl) (fun _ _ _ h => h) (Or.inl ⟨by rfl, ?_⟩) (by assumption) ?_
    rotate_left
    · intro w9 hSw
      go_simp
      first | done | with_reducible rfl
    simp only [Act.put, List.setIfInBounds_toArray, List.set_cons_zero, List.set_cons_succ]
    refine take' 11 (v := undef) rfl (by kernel_rfl) (by kernel_rfl) (by kernel_rfl) (fun _ _ _ h => h) (Or.inr ⟨by rfl, rfl⟩) (by assumption) ?_
    simp only [Act.put, List.setIfInBounds_toArray, List.set_cons_zero, List.set_cons_succ]
    refine take' 12 (v := undef) rfl (by kernel_rfl) (by kernel_rfl) (by kernel_rfl) (fun _ _ _ h => h) (Or.inr ⟨by rfl, rfl⟩) (by assumption) ?_
    simp only [Act.put, List.setIfInBounds_toArray, List.set_cons_zero, List.set_cons_succ]
    refine take' 13 (v := undef) rfl (by kernel_rfl) (by kernel_rfl) (by kernel_rfl) (fun _ _ _ h => h) (Or.inr ⟨by rfl, rfl⟩) (by assumption) ?_
    simp only [Act.put, List.setIfInBounds_toArray, List.set_cons_zero, List.set_cons_succ]
    refine take' 14 (v := undef) rfl (by kernel_rfl) (by kernel_rfl) (by kernel_rfl) (fun _ _ _ h => h) (Or.inr ⟨by rfl, rfl⟩) (by assumption) ?_
    simp only [Act.put, List.setIfInBounds_toArray, List.set_cons_zero, List.set_cons_succ]
    refine take' 15 (v := undef) rfl (by kernel_rfl) (by kernel_rfl) (by kernel_rfl) (fun _ _ _ h => h) (Or.inr ⟨by rfl, rfl⟩) (by assumption) ?_
    simp only [Act.put, List.setIfInBounds_toArray, List.set_cons_zero, List.set_cons_succ]
    refine take' 16 (v := undef) rfl (by kernel_rfl) (by kernel_rfl) (by kernel_rfl) (fun _ _ _ h => h) (Or.inr ⟨by rfl, rfl⟩) (by assumption) ?_
    simp only [Act.put, List.setIfInBounds_toArray, List.set_cons_zero, List.set_cons_succ]
    refine take' 17 (v := ?_) rfl (by kernel_rfl) (by kernel_rfl) (by kernel_rfl) (fun _ _ _ h => h) (Or.inl ⟨by rfl, ?_⟩) (by assumption) ?_
    rotate_left
    · intro w9 hSw
      go_simp
      first | done | with_reducible rfl
    simp only [Act.put, List.setIfInBounds_toArray, List.set_cons_zero, List.set_cons_succ]
    refine take' 18 (v := ?_) rfl (by kernel_rfl) (by kernel_rfl) (by kernel_rfl) (fun _ _ _ h => h) (Or.inl ⟨by rfl, ?_⟩) (by assumption) ?_
    rotate_left
    · intro w9 hSw
      go_simp
      first | done | with_reducible rfl
    simp only [Act.put, List.setIfInBounds_toArray, List.set_cons_zero, List.set_cons_succ]
    refine wpAnyH_done (by kernel_rfl) ?_ _
    go_wp2
    go_ret
    exact ⟨rfl, hB.trans (hBW.mono hB.size)⟩
  · obtain ⟨va, vb, na, nb⟩ := hvv rfl
    clear hvv
    by_cases fa : a % SB < FI
    · skip
      obtain ⟨Za, Va, ga⟩ := low_ex (fv a) (T : Int) hTn
      have pa := ga.pos
      obtain ⟨la, ma⟩ := low_fl hz hT (by unfold fv; rw [am_sg]; exact amt_ln fa) ga
      have Ea := hide' (fun w' => endOf_num z T a Za Va w' hz hT ha fa ga)
      have hcmp := (low_cmp2 hT hD hL ga).1
      obtain ⟨C1, hC1⟩ : ∃ C, sgn (Z * (Va : Int) - Za * (V : Int)) = C := ⟨_, rfl⟩
      have U1 := hide' (fun w' p q p' q' k1 k2 k3 k4 => under_num Z Za V Va p q p' q' C1 w' (by omega) (by omega) (by omega) (by omega) hp pa k1 k2 k3 k4 hC1)
      have hlo : loB T (rn s0 X0 Y0) (rd Y0) a = decide (C1 < 0) := by unfold loB; rw [decide_eq_decide, ← hC1, hcmp, sgn_lt0]; omega
      rw [hlo] at hc
      clear hC1 hcmp hlo
      by_cases h1 : C1 < 0
      · have d1 : decide (C1 < 0) = true := decide_eq_true h1
        have hcf : c = false := by rw [← hc, d1]; rfl
        subst hcf
        rw [d1] at U1
        clear d1 h1 hc hL hp hz hT hTn hD va vb na nb fa ga pa
        go_enter Try.func11, Try.ntmps11
        go_wp2_with fail
        obtain ⟨W, hW⟩ : ∃ W, ((w.alloc (.cells #[.bool s0, .slice a0 n0 c0, .slice b0 m0 d0] 27)).alloc (.cells #[.float .f64 a, .float .f64 b] 30)) = W := ⟨_, rfl⟩
        have q00 : W.cell? ⟨w.heap.size, 0, none⟩ = some (.bool s0) := by subst hW; go_simp
        have q01 : W.cell? ⟨w.heap.size, 1, none⟩ = some (.slice a0 n0 c0) := by subst hW; go_simp
        have q02 : W.cell? ⟨w.heap.size, 2, none⟩ = some (.slice b0 m0 d0) := by subst hW; go_simp
        have q10 : W.cell? ⟨w.heap.size + 1, 0, none⟩ = some (.float .f64 a) := by subst hW; go_simp
        have q11 : W.cell? ⟨w.heap.size + 1, 1, none⟩ = some (.float .f64 b) := by subst hW; go_simp
        have hB : Below w.heap.size w W := by subst hW; exact (((Below.refl _ _).alloc (by (try simp only [World.size_alloc]); omega) _).alloc (by (try simp only [World.size_alloc]); omega) _)
        have hz : W.heap.size = w.heap.size + 1 + 1 := by subst hW; simp only [World.size_alloc]
        rw [hW]
        clear hW
        have hBW : Below W.heap.size W W := Below.refl _ _
        refine (HM.out _ (sb hS0 hB hBW) (sb hT0 hB hBW)).mono ?_
        rintro e w5 ⟨p5, q5, rfl, hp5, hq5⟩
        have b5 := hp5.below
        replace hp5 := hp5.back hBW
        replace hq5 := hq5.back hBW
        replace hBW := hBW.trans (b5.mono hBW.size)
        replace q00 := below_cell b5 q00
        replace q01 := below_cell b5 q01
        replace q02 := below_cell b5 q02
        replace q10 := below_cell b5 q10
        replace q11 := below_cell b5 q11
        have hsz5 := hBW.size
        have l500 : ((w5.alloc (.cells #[.int .i64 0, .bool (ng Z), .slice p5 (ln (am Z)) (ln (am Z)), .slice q5 (ln V) (ln V)] 56))).cell? ⟨w5.heap.size, 0, none⟩ = some (.int .i64 0) := by go_simp
        have l501 : ((w5.alloc (.cells #[.int .i64 0, .bool (ng Z), .slice p5 (ln (am Z)) (ln (am Z)), .slice q5 (ln V) (ln V)] 56))).cell? ⟨w5.heap.size, 1, none⟩ = some (.bool (ng Z)) := by go_simp
        have l502 : ((w5.alloc (.cells #[.int .i64 0, .bool (ng Z), .slice p5 (ln (am Z)) (ln (am Z)), .slice q5 (ln V) (ln V)] 56))).cell? ⟨w5.heap.size, 2, none⟩ = some (.slice p5 (ln (am Z)) (ln (am Z))) := by go_simp
        have l503 : ((w5.alloc (.cells #[.int .i64 0, .bool (ng Z), .slice p5 (ln (am Z)) (ln (am Z)), .slice q5 (ln V) (ln V)] 56))).cell? ⟨w5.heap.size, 3, none⟩ = some (.slice q5 (ln V) (ln V)) := by go_simp
        have cb5 : Below w5.heap.size w5 ((w5.alloc (.cells #[.int .i64 0, .bool (ng Z), .slice p5 (ln (am Z)) (ln (am Z)), .slice q5 (ln V) (ln V)] 56))) := ((Below.refl _ _).alloc (by (try simp only [World.size_alloc]); omega) _)
        replace hBW := hBW.trans (cb5.mono hBW.size)
        replace q00 := below_cell cb5 q00
        replace q01 := below_cell cb5 q01
        replace q02 := below_cell cb5 q02
        replace q10 := below_cell cb5 q10
        replace q11 := below_cell cb5 q11
        replace hp5 := hp5.later cb5
        replace hq5 := hq5.later cb5
        have hL50 : Row ((w5.alloc (.cells #[.int .i64 0, .bool (ng Z), .slice p5 (ln (am Z)) (ln (am Z)), .slice q5 (ln V) (ln V)] 56))) (w5.heap.size) := by
          have := row_new (w5) #[.int .i64 0, .bool (ng Z), .slice p5 (ln (am Z)) (ln (am Z)), .slice q5 (ln V) (ln V)] 56
          try simp only [World.size_alloc] at this
          exact this
        go_wp2_with fail
        generalize (w5.alloc (.cells #[.int .i64 0, .bool (ng Z), .slice p5 (ln (am Z)) (ln (am Z)), .slice q5 (ln V) (ln V)] 56)) = w5x at q00 q01 q02 q10 q11 l500 l501 l502 l503 hL50 hp5 hq5 hBW cb5 ⊢
        clear cb5
        replace hBW := hBW.drew
        replace hp5 := hp5.drew
        replace hq5 := hq5.drew
        refine wp_region_held_drew (S := (fun w' => w'.cell? ⟨w.heap.size, 0, none⟩ = some (.bool s0) ∧ w'.cell? ⟨w.heap.size, 1, none⟩ = some (.slice a0 n0 c0) ∧ w'.cell? ⟨w.heap.size, 2, none⟩ = some (.slice b0 m0 d0) ∧ w'.cell? ⟨w.heap.size + 1, 0, none⟩ = some (.float .f64 a) ∧ w'.cell? ⟨w.heap.size + 1, 1, none⟩ = some (.float .f64 b) ∧ w'.cell? ⟨w5.heap.size, 0, none⟩ = some (.int .i64 0) ∧ w'.cell? ⟨w5.heap.size, 1, none⟩ = some (.bool (ng Z)) ∧ w'.cell? ⟨w5.heap.size, 2, none⟩ = some (.slice p5 (ln (am Z)) (ln (am Z))) ∧ w'.cell? ⟨w5.heap.size, 3, none⟩ = some (.slice q5 (ln V) (ln V)) ∧ Below w.heap.size w w')) (by kernel_rfl) ⟨q00, q01, q02, q10, q11, l500, l501, l502, l503, hB.trans (hBW.mono hB.size)⟩ (fun hHeld => ?_)
        refine take' 0 (v := ?_) rfl (by kernel_rfl) (by kernel_rfl) (by kernel_rfl) (fun _ _ _ h => h) (Or.inl ⟨by rfl, ?_⟩) (by assumption) ?_
        rotate_left
        · intro w9 hSw
          go_simp
          first | done | with_reducible rfl
        simp only [Act.put, List.setIfInBounds_toArray, List.set_cons_zero, List.set_cons_succ]
        refine wpAnyH_ready (rs := [1]) (by kernel_rfl) (by simp) ?_
        refine cons' rfl (fun K hK => ?_)
        go_simp
        refine (HV.out _).mono ?_
        rintro e w6 ⟨rfl, bb6⟩
        have b6 := bb6
        go_wp2_with fail
        refine hK.out _ _ (kp9 b6 hHeld) ?_
        clear hHeld
        intro hHeld
        clear hK K
        replace hBW := hBW.trans (b6.mono hBW.size)
        replace q00 := below_cell b6 q00
        replace q01 := below_cell b6 q01
        replace q02 := below_cell b6 q02
        replace q10 := below_cell b6 q10
        replace q11 := below_cell b6 q11
        replace l500 := below_cell b6 l500
        replace l501 := below_cell b6 l501
        replace l502 := below_cell b6 l502
        replace l503 := below_cell b6 l503
        replace hL50 := below_row b6 hL50
        replace hp5 := hp5.later b6
        replace hq5 := hq5.later b6
        refine take' 2 (v := ?_) rfl (by kernel_rfl) (by kernel_rfl) (by kernel_rfl) (fun _ _ _ h => h) (Or.inl ⟨by rfl, ?_⟩) (by assumption) ?_
        rotate_left
        · intro w9 hSw
          go_simp
          first | done | with_reducible rfl
        simp only [Act.put, List.setIfInBounds_toArray, List.set_cons_zero, List.set_cons_succ]
        refine take' 3 (v := ?_) rfl (by kernel_rfl) (by kernel_rfl) (by kernel_rfl) (fun _ _ _ h => h) (Or.inl ⟨by rfl, ?_⟩) (by assumption) ?_
        rotate_left
        · intro w9 hSw
          go_simp
          first | done | with_reducible rfl
        simp only [Act.put, List.setIfInBounds_toArray, List.set_cons_zero, List.set_cons_succ]
        refine take' 4 (v := ?_) rfl (by kernel_rfl) (by kernel_rfl) (by kernel_rfl) (fun _ _ _ h => h) (Or.inl ⟨by rfl, ?_⟩) (by assumption) ?_
        rotate_left
        · intro w9 hSw
          go_simp
          first | done | with_reducible rfl
        simp only [Act.put, List.setIfInBounds_toArray, List.set_cons_zero, List.set_cons_succ]
        refine take' 5 (v := ?_) rfl (by kernel_rfl) (by kernel_rfl) (by kernel_rfl) (fun _ _ _ h => h) (Or.inl ⟨by rfl, ?_⟩) (by assumption) ?_
        rotate_left
        · intro w9 hSw
          go_simp
          first | done | with_reducible rfl
        simp only [Act.put, List.setIfInBounds_toArray, List.set_cons_zero, List.set_cons_succ]
        refine wpAnyH_ready (rs := [6]) (by kernel_rfl) (by simp) ?_
        refine cons' rfl (fun K hK => ?_)
        go_simp
        refine (Ea.out _).mono ?_
        rintro e w7 ⟨pa, qa, rfl, hpa, hqa⟩
        have b7 := hpa.below
        replace hpa := hpa.back hBW
        replace hqa := hqa.back hBW
        go_wp2_with fail
        refine hK.out _ _ (kp9 b7 hHeld) ?_
        clear hHeld
        intro hHeld
        clear hK K
        replace hBW := hBW.trans (b7.mono hBW.size)
        replace q00 := below_cell b7 q00
        replace q01 := below_cell b7 q01
        replace q02 := below_cell b7 q02
        replace q10 := below_cell b7 q10
        replace q11 := below_cell b7 q11
        replace l500 := below_cell b7 l500
        replace l501 := below_cell b7 l501
        replace l502 := below_cell b7 l502
        replace l503 := below_cell b7 l503
        replace hL50 := below_row b7 hL50
        replace hp5 := hp5.later b7
        replace hq5 := hq5.later b7
        refine wpAnyH_ready (rs := [7]) (by kernel_rfl) (by simp) ?_
        refine cons' rfl (fun K hK => ?_)
        go_simp
        refine (U1.out _ _ _ _ _ hp5.seg hq5.seg hpa.seg hqa.seg).mono ?_
        rintro e w8 ⟨rfl, bb8⟩
        have b8 := bb8
        go_wp2_with fail
        refine hK.out _ _ (kp9 b8 hHeld) ?_
        clear hHeld
        intro hHeld
        clear hK K
        replace hBW := hBW.trans (b8.mono hBW.size)
        replace q00 := below_cell b8 q00
        replace q01 := below_cell b8 q01
        replace q02 := below_cell b8 q02
        replace q10 := below_cell b8 q10
        replace q11 := below_cell b8 q11
        replace l500 := below_cell b8 l500
        replace l501 := below_cell b8 l501
        replace l502 := below_cell b8 l502
        replace l503 := below_cell b8 l503
        replace hL50 := below_row b8 hL50
        replace hp5 := hp5.later b8
        replace hq5 := hq5.later b8
        replace hpa := hpa.later b8
        replace hqa := hqa.later b8
        refine take' 8 (v := ?_) rfl (by kernel_rfl) (by kernel_rfl) (by kernel_rfl) (fun _ _ _ h => h) (Or.inl ⟨by rfl, ?_⟩) (by assumption) ?_
        rotate_left
        · intro w9 hSw
          go_simp
          first | done | with_reducible rfl
        simp only [Act.put, List.setIfInBounds_toArray, List.set_cons_zero, List.set_cons_succ]
        refine take' 9 (v := ?_) rfl (by kernel_rfl) (by kernel_rfl) (by kernel_rfl) (fun _ _ _ h => h) (Or.inl ⟨by rfl, ?_⟩) (by assumption) ?_
        rotate_left
        · intro w9 hSw
          go_simp
          first | done | with_reducible rfl
        simp only [Act.put, List.setIfInBounds_toArray, List.set_cons_zero, List.set_cons_succ]
        refine take' 10 (v := ?_) rfl (by kernel_rfl) (by kernel_rfl) (by kernel_rfl) (fun _ _ _ h => h) (Or.inl ⟨by rfl, ?_⟩) (by assumption) ?_
        rotate_left
        · intro w9 hSw
          go_simp
          first | done | with_reducible rfl
        simp only [Act.put, List.setIfInBounds_toArray, List.set_cons_zero, List.set_cons_succ]
        refine take' 11 (v := undef) rfl (by kernel_rfl) (by kernel_rfl) (by kernel_rfl) (fun _ _ _ h => h) (Or.inr ⟨by rfl, rfl⟩) (by assumption) ?_
        simp only [Act.put, List.setIfInBounds_toArray, List.set_cons_zero, List.set_cons_succ]
        refine take' 12 (v := undef) rfl (by kernel_rfl) (by kernel_rfl) (by kernel_rfl) (fun _ _ _ h => h) (Or.inr ⟨by rfl, rfl⟩) (by assumption) ?_
        simp only [Act.put, List.setIfInBounds_toArray, List.set_cons_zero, List.set_cons_succ]
        refine take' 13 (v := undef) rfl (by kernel_rfl) (by kernel_rfl) (by kernel_rfl) (fun _ _ _ h => h) (Or.inr ⟨by rfl, rfl⟩) (by assumption) ?_
        simp only [Act.put, List.setIfInBounds_toArray, List.set_cons_zero, List.set_cons_succ]
        refine take' 14 (v := undef) rfl (by kernel_rfl) (by kernel_rfl) (by kernel_rfl) (fun _ _ _ h => h) (Or.inr ⟨by rfl, rfl⟩) (by assumption) ?_
        simp only [Act.put, List.setIfInBounds_toArray, List.set_cons_zero, List.set_cons_succ]
        refine take' 15 (v := undef) rfl (by kernel_rfl) (by kernel_rfl) (by kernel_rfl) (fun _ _ _ h => h) (Or.inr ⟨by rfl, rfl⟩) (by assumption) ?_
        simp only [Act.put, List.setIfInBounds_toArray, List.set_cons_zero, List.set_cons_succ]
        refine take' 16 (v := undef) rfl (by kernel_rfl) (by kernel_rfl) (by kernel_rfl) (fun _ _ _ h => h) (Or.inr ⟨by rfl, rfl⟩) (by assumption) ?_
        simp only [Act.put, List.setIfInBounds_toArray, List.set_cons_zero, List.set_cons_succ]
        refine take' 17 (v := ?_) rfl (by kernel_rfl) (by kernel_rfl) (by kernel_rfl) (fun _ _ _ h => h) (Or.inl ⟨by rfl, ?_⟩) (by assumption) ?_
        rotate_left
        · intro w9 hSw
          go_simp
          first | done | with_reducible rfl
        simp only [Act.put, List.setIfInBounds_toArray, List.set_cons_zero, List.set_cons_succ]
        refine take' 18 (v := ?_) rfl (by kernel_rfl) (by kernel_rfl) (by kernel_rfl) (fun _ _ _ h => h) (Or.inl ⟨by rfl, ?_⟩) (by assumption) ?_
        rotate_left
        · intro w9 hSw
          go_simp
          first | done | with_reducible rfl
        simp only [Act.put, List.setIfInBounds_toArray, List.set_cons_zero, List.set_cons_succ]
        refine wpAnyH_done (by kernel_rfl) ?_ _
        go_wp2
        go_ret
        exact ⟨rfl, hB.trans (hBW.mono hB.size)⟩
      · have d1 : decide (C1 < 0) = false := decide_eq_false h1
        rw [d1] at U1 hc
        clear d1 h1
        by_cases fb : b % SB < FI
        · skip
          obtain ⟨Zb, Vb, gb⟩ := low_ex (fv b) (T : Int) hTn
          have pb := gb.pos
          obtain ⟨lb, mb⟩ := low_fl hz hT (by unfold fv; rw [am_sg]; exact amt_ln fb) gb
          have Eb := hide' (fun w' => endOf_num z T b Zb Vb w' hz hT hb fb gb)
          have hcmp2 := (low_cmp2 hT hD hL gb).2
          obtain ⟨C2, hC2⟩ : ∃ C, sgn (Zb * (V : Int) - Z * (Vb : Int)) = C := ⟨_, rfl⟩
          have U2 := hide' (fun w' p q p' q' k1 k2 k3 k4 => under_num Zb Z Vb V p q p' q' C2 w' (by omega) (by omega) (by omega) (by omega) pb hp k1 k2 k3 k4 hC2)
          have hhi : hiB T (rn s0 X0 Y0) (rd Y0) b = decide (C2 < 0) := by unfold hiB; rw [decide_eq_decide, ← hC2, hcmp2, sgn_lt0]; omega
          rw [hhi] at hc
          clear hC2 hcmp2 hhi
          clear hL hp hz hT hTn hD va vb na nb fa fb ga pa gb pb
          have HC := hide' hc
          clear hc
          go_enter Try.func11, Try.ntmps11
          go_wp2_with fail
          obtain ⟨W, hW⟩ : ∃ W, ((w.alloc (.cells #[.bool s0, .slice a0 n0 c0, .slice b0 m0 d0] 27)).alloc (.cells #[.float .f64 a, .float .f64 b] 30)) = W := ⟨_, rfl⟩
          have q00 : W.cell? ⟨w.heap.size, 0, none⟩ = some (.bool s0) := by subst hW; go_simp
          have q01 : W.cell? ⟨w.heap.size, 1, none⟩ = some (.slice a0 n0 c0) := by subst hW; go_simp
          have q02 : W.cell? ⟨w.heap.size, 2, none⟩ = some (.slice b0 m0 d0) := by subst hW; go_simp
          have q10 : W.cell? ⟨w.heap.size + 1, 0, none⟩ = some (.float .f64 a) := by subst hW; go_simp
          have q11 : W.cell? ⟨w.heap.size + 1, 1, none⟩ = some (.float .f64 b) := by subst hW; go_simp
          have hB : Below w.heap.size w W := by subst hW; exact (((Below.refl _ _).alloc (by (try simp only [World.size_alloc]); omega) _).alloc (by (try simp only [World.size_alloc]); omega) _)
          have hz : W.heap.size = w.heap.size + 1 + 1 := by subst hW; simp only [World.size_alloc]
          rw [hW]
          clear hW
          have hBW : Below W.heap.size W W := Below.refl _ _
          refine (HM.out _ (sb hS0 hB hBW) (sb hT0 hB hBW)).mono ?_
          rintro e w5 ⟨p5, q5, rfl, hp5, hq5⟩
          have b5 := hp5.below
          replace hp5 := hp5.back hBW
          replace hq5 := hq5.back hBW
          replace hBW := hBW.trans (b5.mono hBW.size)
          replace q00 := below_cell b5 q00
          replace q01 := below_cell b5 q01
          replace q02 := below_cell b5 q02
          replace q10 := below_cell b5 q10
          replace q11 := below_cell b5 q11
          have hsz5 := hBW.size
          have l500 : ((w5.alloc (.cells #[.int .i64 0, .bool (ng Z), .slice p5 (ln (am Z)) (ln (am Z)), .slice q5 (ln V) (ln V)] 56))).cell? ⟨w5.heap.size, 0, none⟩ = some (.int .i64 0) := by go_simp
          have l501 : ((w5.alloc (.cells #[.int .i64 0, .bool (ng Z), .slice p5 (ln (am Z)) (ln (am Z)), .slice q5 (ln V) (ln V)] 56))).cell? ⟨w5.heap.size, 1, none⟩ = some (.bool (ng Z)) := by go_simp
          have l502 : ((w5.alloc (.cells #[.int .i64 0, .bool (ng Z), .slice p5 (ln (am Z)) (ln (am Z)), .slice q5 (ln V) (ln V)] 56))).cell? ⟨w5.heap.size, 2, none⟩ = some (.slice p5 (ln (am Z)) (ln (am Z))) := by go_simp
          have l503 : ((w5.alloc (.cells #[.int .i64 0, .bool (ng Z), .slice p5 (ln (am Z)) (ln (am Z)), .slice q5 (ln V) (ln V)] 56))).cell? ⟨w5.heap.size, 3, none⟩ = some (.slice q5 (ln V) (ln V)) := by go_simp
          have cb5 : Below w5.heap.size w5 ((w5.alloc (.cells #[.int .i64 0, .bool (ng Z), .slice p5 (ln (am Z)) (ln (am Z)), .slice q5 (ln V) (ln V)] 56))) := ((Below.refl _ _).alloc (by (try simp only [World.size_alloc]); omega) _)
          replace hBW := hBW.trans (cb5.mono hBW.size)
          replace q00 := below_cell cb5 q00
          replace q01 := below_cell cb5 q01
          replace q02 := below_cell cb5 q02
          replace q10 := below_cell cb5 q10
          replace q11 := below_cell cb5 q11
          replace hp5 := hp5.later cb5
          replace hq5 := hq5.later cb5
          have hL50 : Row ((w5.alloc (.cells #[.int .i64 0, .bool (ng Z), .slice p5 (ln (am Z)) (ln (am Z)), .slice q5 (ln V) (ln V)] 56))) (w5.heap.size) := by
            have := row_new (w5) #[.int .i64 0, .bool (ng Z), .slice p5 (ln (am Z)) (ln (am Z)), .slice q5 (ln V) (ln V)] 56
            try simp only [World.size_alloc] at this
            exact this
          go_wp2_with fail
          generalize (w5.alloc (.cells #[.int .i64 0, .bool (ng Z), .slice p5 (ln (am Z)) (ln (am Z)), .slice q5 (ln V) (ln V)] 56)) = w5x at q00 q01 q02 q10 q11 l500 l501 l502 l503 hL50 hp5 hq5 hBW cb5 ⊢
          clear cb5
          replace hBW := hBW.drew
          replace hp5 := hp5.drew
          replace hq5 := hq5.drew
          first
            | go_region_held3 (fun w' => w'.cell? ⟨w.heap.size, 0, none⟩ = some (.bool s0) ∧ w'.cell? ⟨w.heap.size, 1, none⟩ = some (.slice a0 n0 c0) ∧ w'.cell? ⟨w.heap.size, 2, none⟩ = some (.slice b0 m0 d0) ∧ w'.cell? ⟨w.heap.size + 1, 0, none⟩ = some (.float .f64 a) ∧ w'.cell? ⟨w.heap.size + 1, 1, none⟩ = some (.float .f64 b) ∧ w'.cell? ⟨w5.heap.size, 0, none⟩ = some (.int .i64 0) ∧ w'.cell? ⟨w5.heap.size, 1, none⟩ = some (.bool (ng Z)) ∧ w'.cell? ⟨w5.heap.size, 2, none⟩ = some (.slice p5 (ln (am Z)) (ln (am Z))) ∧ w'.cell? ⟨w5.heap.size, 3, none⟩ = some (.slice q5 (ln V) (ln V)) ∧ Below w.heap.size w w')
                (first | exact ⟨q00, q01, q02, q10, q11, l500, l501, l502, l503, hB.trans (hBW.mono hB.size)⟩ | exact kp9 b11 (by assumption) | exact kp9 b12 (by assumption) | exact kp9 b13 (by assumption) | exact kp9 b14 (by assumption) | exact kp9 b15 (by assumption) | exact kp9 (below_alloc _) (by assumption))
                (first
                  | (go_at_call 30; (fail_if_success clear b11); refine (HV.out _).mono ?_; rintro e w11 ⟨rfl, bb11⟩; have b11 := bb11; replace hBW := hBW.trans (b11.mono hBW.size); replace q00 := below_cell b11 q00; replace q01 := below_cell b11 q01; replace q02 := below_cell b11 q02; replace q10 := below_cell b11 q10; replace q11 := below_cell b11 q11; replace l500 := below_cell b11 l500; replace l501 := below_cell b11 l501; replace l502 := below_cell b11 l502; replace l503 := below_cell b11 l503; replace hL50 := below_row b11 hL50; replace hp5 := hp5.later b11; replace hq5 := hq5.later b11)
                  | (go_at_call 32; go_at_call_of 32 (Value.float .f64 a); (fail_if_success clear b12); refine (Ea.out _).mono ?_; rintro e w12 ⟨pa, qa, rfl, hpa, hqa⟩; have b12 := hpa.below; replace hpa := hpa.back hBW; replace hqa := hqa.back hBW; replace hBW := hBW.trans (b12.mono hBW.size); replace q00 := below_cell b12 q00; replace q01 := below_cell b12 q01; replace q02 := below_cell b12 q02; replace q10 := below_cell b12 q10; replace q11 := below_cell b12 q11; replace l500 := below_cell b12 l500; replace l501 := below_cell b12 l501; replace l502 := below_cell b12 l502; replace l503 := below_cell b12 l503; replace hL50 := below_row b12 hL50; replace hp5 := hp5.later b12; replace hq5 := hq5.later b12)
                  | (go_at_call 31; (fail_if_success clear b13); refine (U1.out _ _ _ _ _ hp5.seg hq5.seg hpa.seg hqa.seg).mono ?_; rintro e w13 ⟨rfl, bb13⟩; have b13 := bb13; replace hBW := hBW.trans (b13.mono hBW.size); replace q00 := below_cell b13 q00; replace q01 := below_cell b13 q01; replace q02 := below_cell b13 q02; replace q10 := below_cell b13 q10; replace q11 := below_cell b13 q11; replace l500 := below_cell b13 l500; replace l501 := below_cell b13 l501; replace l502 := below_cell b13 l502; replace l503 := below_cell b13 l503; replace hL50 := below_row b13 hL50; replace hp5 := hp5.later b13; replace hq5 := hq5.later b13; replace hpa := hpa.later b13; replace hqa := hqa.later b13)
                  | (go_at_call 32; go_at_call_of 32 (Value.float .f64 b); (fail_if_success clear b14); refine (Eb.out _).mono ?_; rintro e w14 ⟨pb, qb, rfl, hpb, hqb⟩; have b14 := hpb.below; replace hpb := hpb.back hBW; replace hqb := hqb.back hBW; replace hBW := hBW.trans (b14.mono hBW.size); replace q00 := below_cell b14 q00; replace q01 := below_cell b14 q01; replace q02 := below_cell b14 q02; replace q10 := below_cell b14 q10; replace q11 := below_cell b14 q11; replace l500 := below_cell b14 l500; replace l501 := below_cell b14 l501; replace l502 := below_cell b14 l502; replace l503 := below_cell b14 l503; replace hL50 := below_row b14 hL50; replace hp5 := hp5.later b14; replace hq5 := hq5.later b14; replace hpa := hpa.later b14; replace hqa := hqa.later b14)
                  | (go_at_call 31; (fail_if_success clear b15); refine (U2.out _ _ _ _ _ hpb.seg hqb.seg hp5.seg hq5.seg).mono ?_; rintro e w15 ⟨rfl, bb15⟩; have b15 := bb15; replace hBW := hBW.trans (b15.mono hBW.size); replace q00 := below_cell b15 q00; replace q01 := below_cell b15 q01; replace q02 := below_cell b15 q02; replace q10 := below_cell b15 q10; replace q11 := below_cell b15 q11; replace l500 := below_cell b15 l500; replace l501 := below_cell b15 l501; replace l502 := below_cell b15 l502; replace l503 := below_cell b15 l503; replace hL50 := below_row b15 hL50; replace hp5 := hp5.later b15; replace hq5 := hq5.later b15; replace hpa := hpa.later b15; replace hqa := hqa.later b15; replace hpb := hpb.later b15; replace hqb := hqb.later b15))
            | fail
          go_wp2
          go_ret
          exact ⟨by rw [← HC.out]; rfl, hB.trans (hBW.mono hB.size)⟩
        · skip
          have eb : faI b = 1 := if_pos (inf_hi hb (by omega) nb)
          have Eb := hide' (fun w' => endOf_inf b w' hb (by omega))
          rw [eb] at Eb
          have U2 := hide' (fun w' s1 a1 n1 c1 b1 m1 d1 s2 a2 n2 c2 b2 m2 d2 => under_far 1 s1 a1 n1 c1 b1 m1 d1 0 s2 a2 n2 c2 b2 m2 d2 false w' (by decide) (by decide))
          have hhi : hiB T (rn s0 X0 Y0) (rd Y0) b = false := by unfold hiB; exact decide_eq_false (fun h => fb h.1)
          rw [hhi] at hc
          clear hhi eb
          clear hL hp hz hT hTn hD va vb na nb fa fb ga pa
          have HC := hide' hc
          clear hc
          go_enter Try.func11, Try.ntmps11
          go_wp2_with fail
          obtain ⟨W, hW⟩ : ∃ W, ((w.alloc (.cells #[.bool s0, .slice a0 n0 c0, .slice b0 m0 d0] 27)).alloc (.cells #[.float .f64 a, .float .f64 b] 30)) = W := ⟨_, rfl⟩
          have q00 : W.cell? ⟨w.heap.size, 0, none⟩ = some (.bool s0) := by subst hW; go_simp
          have q01 : W.cell? ⟨w.heap.size, 1, none⟩ = some (.slice a0 n0 c0) := by subst hW; go_simp
          have q02 : W.cell? ⟨w.heap.size, 2, none⟩ = some (.slice b0 m0 d0) := by subst hW; go_simp
          have q10 : W.cell? ⟨w.heap.size + 1, 0, none⟩ = some (.float .f64 a) := by subst hW; go_simp
          have q11 : W.cell? ⟨w.heap.size + 1, 1, none⟩ = some (.float .f64 b) := by subst hW; go_simp
          have hB : Below w.heap.size w W := by subst hW; exact (((Below.refl _ _).alloc (by (try simp only [World.size_alloc]); omega) _).alloc (by (try simp only [World.size_alloc]); omega) _)
          have hz : W.heap.size = w.heap.size + 1 + 1 := by subst hW; simp only [World.size_alloc]
          rw [hW]
          clear hW
          have hBW : Below W.heap.size W W := Below.refl _ _
          refine (HM.out _ (sb hS0 hB hBW) (sb hT0 hB hBW)).mono ?_
          rintro e w5 ⟨p5, q5, rfl, hp5, hq5⟩
          have b5 := hp5.below
          replace hp5 := hp5.back hBW
          replace hq5 := hq5.back hBW
          replace hBW := hBW.trans (b5.mono hBW.size)
          replace q00 := below_cell b5 q00
          replace q01 := below_cell b5 q01
          replace q02 := below_cell b5 q02
          replace q10 := below_cell b5 q10
          replace q11 := below_cell b5 q11
          have hsz5 := hBW.size
          have l500 : ((w5.alloc (.cells #[.int .i64 0, .bool (ng Z), .slice p5 (ln (am Z)) (ln (am Z)), .slice q5 (ln V) (ln V)] 56))).cell? ⟨w5.heap.size, 0, none⟩ = some (.int .i64 0) := by go_simp
          have l501 : ((w5.alloc (.cells #[.int .i64 0, .bool (ng Z), .slice p5 (ln (am Z)) (ln (am Z)), .slice q5 (ln V) (ln V)] 56))).cell? ⟨w5.heap.size, 1, none⟩ = some (.bool (ng Z)) := by go_simp
          have l502 : ((w5.alloc (.cells #[.int .i64 0, .bool (ng Z), .slice p5 (ln (am Z)) (ln (am Z)), .slice q5 (ln V) (ln V)] 56))).cell? ⟨w5.heap.size, 2, none⟩ = some (.slice p5 (ln (am Z)) (ln (am Z))) := by go_simp
          have l503 : ((w5.alloc (.cells #[.int .i64 0, .bool (ng Z), .slice p5 (ln (am Z)) (ln (am Z)), .slice q5 (ln V) (ln V)] 56))).cell? ⟨w5.heap.size, 3, none⟩ = some (.slice q5 (ln V) (ln V)) := by go_simp
          have cb5 : Below w5.heap.size w5 ((w5.alloc (.cells #[.int .i64 0, .bool (ng Z), .slice p5 (ln (am Z)) (ln (am Z)), .slice q5 (ln V) (ln V)] 56))) := ((Below.refl _ _).alloc (by (try simp only [World.size_alloc]); omega) _)
          replace hBW := hBW.trans (cb5.mono hBW.size)
          replace q00 := below_cell cb5 q00
          replace q01 := below_cell cb5 q01
          replace q02 := below_cell cb5 q02
          replace q10 := below_cell cb5 q10
          replace q11 := below_cell cb5 q11
          replace hp5 := hp5.later cb5
          replace hq5 := hq5.later cb5
          have hL50 : Row ((w5.alloc (.cells #[.int .i64 0, .bool (ng Z), .slice p5 (ln (am Z)) (ln (am Z)), .slice q5 (ln V) (ln V)] 56))) (w5.heap.size) := by
            have := row_new (w5) #[.int .i64 0, .bool (ng Z), .slice p5 (ln (am Z)) (ln (am Z)), .slice q5 (ln V) (ln V)] 56
            try simp only [World.size_alloc] at this
            exact this
          go_wp2_with fail
          generalize (w5.alloc (.cells #[.int .i64 0, .bool (ng Z), .slice p5 (ln (am Z)) (ln (am Z)), .slice q5 (ln V) (ln V)] 56)) = w5x at q00 q01 q02 q10 q11 l500 l501 l502 l503 hL50 hp5 hq5 hBW cb5 ⊢
          clear cb5
          replace hBW := hBW.drew
          replace hp5 := hp5.drew
          replace hq5 := hq5.drew
          first
            | go_region_held3 (fun w' => w'.cell? ⟨w.heap.size, 0, none⟩ = some (.bool s0) ∧ w'.cell? ⟨w.heap.size, 1, none⟩ = some (.slice a0 n0 c0) ∧ w'.cell? ⟨w.heap.size, 2, none⟩ = some (.slice b0 m0 d0) ∧ w'.cell? ⟨w.heap.size + 1, 0, none⟩ = some (.float .f64 a) ∧ w'.cell? ⟨w.heap.size + 1, 1, none⟩ = some (.float .f64 b) ∧ w'.cell? ⟨w5.heap.size, 0, none⟩ = some (.int .i64 0) ∧ w'.cell? ⟨w5.heap.size, 1, none⟩ = some (.bool (ng Z)) ∧ w'.cell? ⟨w5.heap.size, 2, none⟩ = some (.slice p5 (ln (am Z)) (ln (am Z))) ∧ w'.cell? ⟨w5.heap.size, 3, none⟩ = some (.slice q5 (ln V) (ln V)) ∧ Below w.heap.size w w')
                (first | exact ⟨q00, q01, q02, q10, q11, l500, l501, l502, l503, hB.trans (hBW.mono hB.size)⟩ | exact kp9 b11 (by assumption) | exact kp9 b12 (by assumption) | exact kp9 b13 (by assumption) | exact kp9 b14 (by assumption) | exact kp9 b15 (by assumption) | exact kp9 (below_alloc _) (by assumption))
                (first
                  | (go_at_call 30; (fail_if_success clear b11); refine (HV.out _).mono ?_; rintro e w11 ⟨rfl, bb11⟩; have b11 := bb11; replace hBW := hBW.trans (b11.mono hBW.size); replace q00 := below_cell b11 q00; replace q01 := below_cell b11 q01; replace q02 := below_cell b11 q02; replace q10 := below_cell b11 q10; replace q11 := below_cell b11 q11; replace l500 := below_cell b11 l500; replace l501 := below_cell b11 l501; replace l502 := below_cell b11 l502; replace l503 := below_cell b11 l503; replace hL50 := below_row b11 hL50; replace hp5 := hp5.later b11; replace hq5 := hq5.later b11)
                  | (go_at_call 32; go_at_call_of 32 (Value.float .f64 a); (fail_if_success clear b12); refine (Ea.out _).mono ?_; rintro e w12 ⟨pa, qa, rfl, hpa, hqa⟩; have b12 := hpa.below; replace hpa := hpa.back hBW; replace hqa := hqa.back hBW; replace hBW := hBW.trans (b12.mono hBW.size); replace q00 := below_cell b12 q00; replace q01 := below_cell b12 q01; replace q02 := below_cell b12 q02; replace q10 := below_cell b12 q10; replace q11 := below_cell b12 q11; replace l500 := below_cell b12 l500; replace l501 := below_cell b12 l501; replace l502 := below_cell b12 l502; replace l503 := below_cell b12 l503; replace hL50 := below_row b12 hL50; replace hp5 := hp5.later b12; replace hq5 := hq5.later b12)
                  | (go_at_call 31; (fail_if_success clear b13); refine (U1.out _ _ _ _ _ hp5.seg hq5.seg hpa.seg hqa.seg).mono ?_; rintro e w13 ⟨rfl, bb13⟩; have b13 := bb13; replace hBW := hBW.trans (b13.mono hBW.size); replace q00 := below_cell b13 q00; replace q01 := below_cell b13 q01; replace q02 := below_cell b13 q02; replace q10 := below_cell b13 q10; replace q11 := below_cell b13 q11; replace l500 := below_cell b13 l500; replace l501 := below_cell b13 l501; replace l502 := below_cell b13 l502; replace l503 := below_cell b13 l503; replace hL50 := below_row b13 hL50; replace hp5 := hp5.later b13; replace hq5 := hq5.later b13; replace hpa := hpa.later b13; replace hqa := hqa.later b13)
                  | (go_at_call 32; go_at_call_of 32 (Value.float .f64 b); (fail_if_success clear b14); refine (Eb.out _).mono ?_; rintro e w14 ⟨rfl, bb14⟩; have b14 := bb14; replace hBW := hBW.trans (b14.mono hBW.size); replace q00 := below_cell b14 q00; replace q01 := below_cell b14 q01; replace q02 := below_cell b14 q02; replace q10 := below_cell b14 q10; replace q11 := below_cell b14 q11; replace l500 := below_cell b14 l500; replace l501 := below_cell b14 l501; replace l502 := below_cell b14 l502; replace l503 := below_cell b14 l503; replace hL50 := below_row b14 hL50; replace hp5 := hp5.later b14; replace hq5 := hq5.later b14; replace hpa := hpa.later b14; replace hqa := hqa.later b14)
                  | (go_at_call 31; (fail_if_success clear b15); refine (U2.out _ _ _ _ _ _ _ _ _ _ _ _ _ _ _).mono ?_; rintro e w15 ⟨rfl, bb15⟩; have b15 := bb15; replace hBW := hBW.trans (b15.mono hBW.size); replace q00 := below_cell b15 q00; replace q01 := below_cell b15 q01; replace q02 := below_cell b15 q02; replace q10 := below_cell b15 q10; replace q11 := below_cell b15 q11; replace l500 := below_cell b15 l500; replace l501 := below_cell b15 l501; replace l502 := below_cell b15 l502; replace l503 := below_cell b15 l503; replace hL50 := below_row b15 hL50; replace hp5 := hp5.later b15; replace hq5 := hq5.later b15; replace hpa := hpa.later b15; replace hqa := hqa.later b15))
            | fail
          go_wp2
          go_ret
          exact ⟨by rw [← HC.out]; rfl, hB.trans (hBW.mono hB.size)⟩
    · skip
      have ea : faI a = -1 := if_neg na
      have Ea := hide' (fun w' => endOf_inf a w' ha (by omega))
      rw [ea] at Ea
      have U1 := hide' (fun w' s1 a1 n1 c1 b1 m1 d1 s2 a2 n2 c2 b2 m2 d2 => under_far 0 s1 a1 n1 c1 b1 m1 d1 (-1) s2 a2 n2 c2 b2 m2 d2 false w' (by decide) (by decide))
      have hlo : loB T (rn s0 X0 Y0) (rd Y0) a = false := by unfold loB; exact decide_eq_false (fun h => fa h.1)
      rw [hlo] at hc
      clear hlo ea
      by_cases fb : b % SB < FI
      · skip
        obtain ⟨Zb, Vb, gb⟩ := low_ex (fv b) (T : Int) hTn
        have pb := gb.pos
        obtain ⟨lb, mb⟩ := low_fl hz hT (by unfold fv; rw [am_sg]; exact amt_ln fb) gb
        have Eb := hide' (fun w' => endOf_num z T b Zb Vb w' hz hT hb fb gb)
        have hcmp2 := (low_cmp2 hT hD hL gb).2
        obtain ⟨C2, hC2⟩ : ∃ C, sgn (Zb * (V : Int) - Z * (Vb : Int)) = C := ⟨_, rfl⟩
        have U2 := hide' (fun w' p q p' q' k1 k2 k3 k4 => under_num Zb Z Vb V p q p' q' C2 w' (by omega) (by omega) (by omega) (by omega) pb hp k1 k2 k3 k4 hC2)
        have hhi : hiB T (rn s0 X0 Y0) (rd Y0) b = decide (C2 < 0) := by unfold hiB; rw [decide_eq_decide, ← hC2, hcmp2, sgn_lt0]; omega
        rw [hhi] at hc
        clear hC2 hcmp2 hhi
        clear hL hp hz hT hTn hD va vb na nb fa fb gb pb
        have HC := hide' hc
        clear hc
        go_enter Try.func11, Try.ntmps11
        go_wp2_with fail
        obtain ⟨W, hW⟩ : ∃ W, ((w.alloc (.cells #[.bool s0, .slice a0 n0 c0, .slice b0 m0 d0] 27)).alloc (.cells #[.float .f64 a, .float .f64 b] 30)) = W := ⟨_, rfl⟩
        have q00 : W.cell? ⟨w.heap.size, 0, none⟩ = some (.bool s0) := by subst hW; go_simp
        have q01 : W.cell? ⟨w.heap.size, 1, none⟩ = some (.slice a0 n0 c0) := by subst hW; go_simp
        have q02 : W.cell? ⟨w.heap.size, 2, none⟩ = some (.slice b0 m0 d0) := by subst hW; go_simp
        have q10 : W.cell? ⟨w.heap.size + 1, 0, none⟩ = some (.float .f64 a) := by subst hW; go_simp
        have q11 : W.cell? ⟨w.heap.size + 1, 1, none⟩ = some (.float .f64 b) := by subst hW; go_simp
        have hB : Below w.heap.size w W := by subst hW; exact (((Below.refl _ _).alloc (by (try simp only [World.size_alloc]); omega) _).alloc (by (try simp only [World.size_alloc]); omega) _)
        have hz : W.heap.size = w.heap.size + 1 + 1 := by subst hW; simp only [World.size_alloc]
        rw [hW]
        clear hW
        have hBW : Below W.heap.size W W := Below.refl _ _
        refine (HM.out _ (sb hS0 hB hBW) (sb hT0 hB hBW)).mono ?_
        rintro e w5 ⟨p5, q5, rfl, hp5, hq5⟩
        have b5 := hp5.below
        replace hp5 := hp5.back hBW
        replace hq5 := hq5.back hBW
        replace hBW := hBW.trans (b5.mono hBW.size)
        replace q00 := below_cell b5 q00
        replace q01 := below_cell b5 q01
        replace q02 := below_cell b5 q02
        replace q10 := below_cell b5 q10
        replace q11 := below_cell b5 q11
        have hsz5 := hBW.size
        have l500 : ((w5.alloc (.cells #[.int .i64 0, .bool (ng Z), .slice p5 (ln (am Z)) (ln (am Z)), .slice q5 (ln V) (ln V)] 56))).cell? ⟨w5.heap.size, 0, none⟩ = some (.int .i64 0) := by go_simp
        have l501 : ((w5.alloc (.cells #[.int .i64 0, .bool (ng Z), .slice p5 (ln (am Z)) (ln (am Z)), .slice q5 (ln V) (ln V)] 56))).cell? ⟨w5.heap.size, 1, none⟩ = some (.bool (ng Z)) := by go_simp
        have l502 : ((w5.alloc (.cells #[.int .i64 0, .bool (ng Z), .slice p5 (ln (am Z)) (ln (am Z)), .slice q5 (ln V) (ln V)] 56))).cell? ⟨w5.heap.size, 2, none⟩ = some (.slice p5 (ln (am Z)) (ln (am Z))) := by go_simp
        have l503 : ((w5.alloc (.cells #[.int .i64 0, .bool (ng Z), .slice p5 (ln (am Z)) (ln (am Z)), .slice q5 (ln V) (ln V)] 56))).cell? ⟨w5.heap.size, 3, none⟩ = some (.slice q5 (ln V) (ln V)) := by go_simp
        have cb5 : Below w5.heap.size w5 ((w5.alloc (.cells #[.int .i64 0, .bool (ng Z), .slice p5 (ln (am Z)) (ln (am Z)), .slice q5 (ln V) (ln V)] 56))) := ((Below.refl _ _).alloc (by (try simp only [World.size_alloc]); omega) _)
        replace hBW := hBW.trans (cb5.mono hBW.size)
        replace q00 := below_cell cb5 q00
        replace q01 := below_cell cb5 q01
        replace q02 := below_cell cb5 q02
        replace q10 := below_cell cb5 q10
        replace q11 := below_cell cb5 q11
        replace hp5 := hp5.later cb5
        replace hq5 := hq5.later cb5
        have hL50 : Row ((w5.alloc (.cells #[.int .i64 0, .bool (ng Z), .slice p5 (ln (am Z)) (ln (am Z)), .slice q5 (ln V) (ln V)] 56))) (w5.heap.size) := by
          have := row_new (w5) #[.int .i64 0, .bool (ng Z), .slice p5 (ln (am Z)) (ln (am Z)), .slice q5 (ln V) (ln V)] 56
          try simp only [World.size_alloc] at this
          exact this
        go_wp2_with fail
        generalize (w5.alloc (.cells #[.int .i64 0, .bool (ng Z), .slice p5 (ln (am Z)) (ln (am Z)), .slice q5 (ln V) (ln V)] 56)) = w5x at q00 q01 q02 q10 q11 l500 l501 l502 l503 hL50 hp5 hq5 hBW cb5 ⊢
        clear cb5
        replace hBW := hBW.drew
        replace hp5 := hp5.drew
        replace hq5 := hq5.drew
        first
          | go_region_held3 (fun w' => w'.cell? ⟨w.heap.size, 0, none⟩ = some (.bool s0) ∧ w'.cell? ⟨w.heap.size, 1, none⟩ = some (.slice a0 n0 c0) ∧ w'.cell? ⟨w.heap.size, 2, none⟩ = some (.slice b0 m0 d0) ∧ w'.cell? ⟨w.heap.size + 1, 0, none⟩ = some (.float .f64 a) ∧ w'.cell? ⟨w.heap.size + 1, 1, none⟩ = some (.float .f64 b) ∧ w'.cell? ⟨w5.heap.size, 0, none⟩ = some (.int .i64 0) ∧ w'.cell? ⟨w5.heap.size, 1, none⟩ = some (.bool (ng Z)) ∧ w'.cell? ⟨w5.heap.size, 2, none⟩ = some (.slice p5 (ln (am Z)) (ln (am Z))) ∧ w'.cell? ⟨w5.heap.size, 3, none⟩ = some (.slice q5 (ln V) (ln V)) ∧ Below w.heap.size w w')
              (first | exact ⟨q00, q01, q02, q10, q11, l500, l501, l502, l503, hB.trans (hBW.mono hB.size)⟩ | exact kp9 b11 (by assumption) | exact kp9 b12 (by assumption) | exact kp9 b13 (by assumption) | exact kp9 b14 (by assumption) | exact kp9 b15 (by assumption) | exact kp9 (below_alloc _) (by assumption))
              (first
                | (go_at_call 30; (fail_if_success clear b11); refine (HV.out _).mono ?_; rintro e w11 ⟨rfl, bb11⟩; have b11 := bb11; replace hBW := hBW.trans (b11.mono hBW.size); replace q00 := below_cell b11 q00; replace q01 := below_cell b11 q01; replace q02 := below_cell b11 q02; replace q10 := below_cell b11 q10; replace q11 := below_cell b11 q11; replace l500 := below_cell b11 l500; replace l501 := below_cell b11 l501; replace l502 := below_cell b11 l502; replace l503 := below_cell b11 l503; replace hL50 := below_row b11 hL50; replace hp5 := hp5.later b11; replace hq5 := hq5.later b11)
                | (go_at_call 32; go_at_call_of 32 (Value.float .f64 a); (fail_if_success clear b12); refine (Ea.out _).mono ?_; rintro e w12 ⟨rfl, bb12⟩; have b12 := bb12; replace hBW := hBW.trans (b12.mono hBW.size); replace q00 := below_cell b12 q00; replace q01 := below_cell b12 q01; replace q02 := below_cell b12 q02; replace q10 := below_cell b12 q10; replace q11 := below_cell b12 q11; replace l500 := below_cell b12 l500; replace l501 := below_cell b12 l501; replace l502 := below_cell b12 l502; replace l503 := below_cell b12 l503; replace hL50 := below_row b12 hL50; replace hp5 := hp5.later b12; replace hq5 := hq5.later b12)
                | (go_at_call 31; (fail_if_success clear b13); refine (U1.out _ _ _ _ _ _ _ _ _ _ _ _ _ _ _).mono ?_; rintro e w13 ⟨rfl, bb13⟩; have b13 := bb13; replace hBW := hBW.trans (b13.mono hBW.size); replace q00 := below_cell b13 q00; replace q01 := below_cell b13 q01; replace q02 := below_cell b13 q02; replace q10 := below_cell b13 q10; replace q11 := below_cell b13 q11; replace l500 := below_cell b13 l500; replace l501 := below_cell b13 l501; replace l502 := below_cell b13 l502; replace l503 := below_cell b13 l503; replace hL50 := below_row b13 hL50; replace hp5 := hp5.later b13; replace hq5 := hq5.later b13)
                | (go_at_call 32; go_at_call_of 32 (Value.float .f64 b); (fail_if_success clear b14); refine (Eb.out _).mono ?_; rintro e w14 ⟨pb, qb, rfl, hpb, hqb⟩; have b14 := hpb.below; replace hpb := hpb.back hBW; replace hqb := hqb.back hBW; replace hBW := hBW.trans (b14.mono hBW.size); replace q00 := below_cell b14 q00; replace q01 := below_cell b14 q01; replace q02 := below_cell b14 q02; replace q10 := below_cell b14 q10; replace q11 := below_cell b14 q11; replace l500 := below_cell b14 l500; replace l501 := below_cell b14 l501; replace l502 := below_cell b14 l502; replace l503 := below_cell b14 l503; replace hL50 := below_row b14 hL50; replace hp5 := hp5.later b14; replace hq5 := hq5.later b14)
                | (go_at_call 31; (fail_if_success clear b15); refine (U2.out _ _ _ _ _ hpb.seg hqb.seg hp5.seg hq5.seg).mono ?_; rintro e w15 ⟨rfl, bb15⟩; have b15 := bb15; replace hBW := hBW.trans (b15.mono hBW.size); replace q00 := below_cell b15 q00; replace q01 := below_cell b15 q01; replace q02 := below_cell b15 q02; replace q10 := below_cell b15 q10; replace q11 := below_cell b15 q11; replace l500 := below_cell b15 l500; replace l501 := below_cell b15 l501; replace l502 := below_cell b15 l502; replace l503 := below_cell b15 l503; replace hL50 := below_row b15 hL50; replace hp5 := hp5.later b15; replace hq5 := hq5.later b15; replace hpb := hpb.later b15; replace hqb := hqb.later b15))
          | fail
        go_wp2
        go_ret
        exact ⟨by rw [← HC.out]; rfl, hB.trans (hBW.mono hB.size)⟩
      · skip
        have eb : faI b = 1 := if_pos (inf_hi hb (by omega) nb)
        have Eb := hide' (fun w' => endOf_inf b w' hb (by omega))
        rw [eb] at Eb
        have U2 := hide' (fun w' s1 a1 n1 c1 b1 m1 d1 s2 a2 n2 c2 b2 m2 d2 => under_far 1 s1 a1 n1 c1 b1 m1 d1 0 s2 a2 n2 c2 b2 m2 d2 false w' (by decide) (by decide))
        have hhi : hiB T (rn s0 X0 Y0) (rd Y0) b = false := by unfold hiB; exact decide_eq_false (fun h => fb h.1)
        rw [hhi] at hc
        clear hhi eb
        clear hL hp hz hT hTn hD va vb na nb fa fb
        have HC := hide' hc
        clear hc
        go_enter Try.func11, Try.ntmps11
        go_wp2_with fail
        obtain ⟨W, hW⟩ : ∃ W, ((w.alloc (.cells #[.bool s0, .slice a0 n0 c0, .slice b0 m0 d0] 27)).alloc (.cells #[.float .f64 a, .float .f64 b] 30)) = W := ⟨_, rfl⟩
        have q00 : W.cell? ⟨w.heap.size, 0, none⟩ = some (.bool s0) := by subst hW; go_simp
        have q01 : W.cell? ⟨w.heap.size, 1, none⟩ = some (.slice a0 n0 c0) := by subst hW; go_simp
        have q02 : W.cell? ⟨w.heap.size, 2, none⟩ = some (.slice b0 m0 d0) := by subst hW; go_simp
        have q10 : W.cell? ⟨w.heap.size + 1, 0, none⟩ = some (.float .f64 a) := by subst hW; go_simp
        have q11 : W.cell? ⟨w.heap.size + 1, 1, none⟩ = some (.float .f64 b) := by subst hW; go_simp
        have hB : Below w.heap.size w W := by subst hW; exact (((Below.refl _ _).alloc (by (try simp only [World.size_alloc]); omega) _).alloc (by (try simp only [World.size_alloc]); omega) _)
        have hz : W.heap.size = w.heap.size + 1 + 1 := by subst hW; simp only [World.size_alloc]
        rw [hW]
        clear hW
        have hBW : Below W.heap.size W W := Below.refl _ _
        refine (HM.out _ (sb hS0 hB hBW) (sb hT0 hB hBW)).mono ?_
        rintro e w5 ⟨p5, q5, rfl, hp5, hq5⟩
        have b5 := hp5.below
        replace hp5 := hp5.back hBW
        replace hq5 := hq5.back hBW
        replace hBW := hBW.trans (b5.mono hBW.size)
        replace q00 := below_cell b5 q00
        replace q01 := below_cell b5 q01
        replace q02 := below_cell b5 q02
        replace q10 := below_cell b5 q10
        replace q11 := below_cell b5 q11
        have hsz5 := hBW.size
        have l500 : ((w5.alloc (.cells #[.int .i64 0, .bool (ng Z), .slice p5 (ln (am Z)) (ln (am Z)), .slice q5 (ln V) (ln V)] 56))).cell? ⟨w5.heap.size, 0, none⟩ = some (.int .i64 0) := by go_simp
        have l501 : ((w5.alloc (.cells #[.int .i64 0, .bool (ng Z), .slice p5 (ln (am Z)) (ln (am Z)), .slice q5 (ln V) (ln V)] 56))).cell? ⟨w5.heap.size, 1, none⟩ = some (.bool (ng Z)) := by go_simp
        have l502 : ((w5.alloc (.cells #[.int .i64 0, .bool (ng Z), .slice p5 (ln (am Z)) (ln (am Z)), .slice q5 (ln V) (ln V)] 56))).cell? ⟨w5.heap.size, 2, none⟩ = some (.slice p5 (ln (am Z)) (ln (am Z))) := by go_simp
        have l503 : ((w5.alloc (.cells #[.int .i64 0, .bool (ng Z), .slice p5 (ln (am Z)) (ln (am Z)), .slice q5 (ln V) (ln V)] 56))).cell? ⟨w5.heap.size, 3, none⟩ = some (.slice q5 (ln V) (ln V)) := by go_simp
        have cb5 : Below w5.heap.size w5 ((w5.alloc (.cells #[.int .i64 0, .bool (ng Z), .slice p5 (ln (am Z)) (ln (am Z)), .slice q5 (ln V) (ln V)] 56))) := ((Below.refl _ _).alloc (by (try simp only [World.size_alloc]); omega) _)
        replace hBW := hBW.trans (cb5.mono hBW.size)
        replace q00 := below_cell cb5 q00
        replace q01 := below_cell cb5 q01
        replace q02 := below_cell cb5 q02
        replace q10 := below_cell cb5 q10
        replace q11 := below_cell cb5 q11
        replace hp5 := hp5.later cb5
        replace hq5 := hq5.later cb5
        have hL50 : Row ((w5.alloc (.cells #[.int .i64 0, .bool (ng Z), .slice p5 (ln (am Z)) (ln (am Z)), .slice q5 (ln V) (ln V)] 56))) (w5.heap.size) := by
          have := row_new (w5) #[.int .i64 0, .bool (ng Z), .slice p5 (ln (am Z)) (ln (am Z)), .slice q5 (ln V) (ln V)] 56
          try simp only [World.size_alloc] at this
          exact this
        go_wp2_with fail
        generalize (w5.alloc (.cells #[.int .i64 0, .bool (ng Z), .slice p5 (ln (am Z)) (ln (am Z)), .slice q5 (ln V) (ln V)] 56)) = w5x at q00 q01 q02 q10 q11 l500 l501 l502 l503 hL50 hp5 hq5 hBW cb5 ⊢
        clear cb5
        replace hBW := hBW.drew
        replace hp5 := hp5.drew
        replace hq5 := hq5.drew
        first
          | go_region_held3 (fun w' => w'.cell? ⟨w.heap.size, 0, none⟩ = some (.bool s0) ∧ w'.cell? ⟨w.heap.size, 1, none⟩ = some (.slice a0 n0 c0) ∧ w'.cell? ⟨w.heap.size, 2, none⟩ = some (.slice b0 m0 d0) ∧ w'.cell? ⟨w.heap.size + 1, 0, none⟩ = some (.float .f64 a) ∧ w'.cell? ⟨w.heap.size + 1, 1, none⟩ = some (.float .f64 b) ∧ w'.cell? ⟨w5.heap.size, 0, none⟩ = some (.int .i64 0) ∧ w'.cell? ⟨w5.heap.size, 1, none⟩ = some (.bool (ng Z)) ∧ w'.cell? ⟨w5.heap.size, 2, none⟩ = some (.slice p5 (ln (am Z)) (ln (am Z))) ∧ w'.cell? ⟨w5.heap.size, 3, none⟩ = some (.slice q5 (ln V) (ln V)) ∧ Below w.heap.size w w')
              (first | exact ⟨q00, q01, q02, q10, q11, l500, l501, l502, l503, hB.trans (hBW.mono hB.size)⟩ | exact kp9 b11 (by assumption) | exact kp9 b12 (by assumption) | exact kp9 b13 (by assumption) | exact kp9 b14 (by assumption) | exact kp9 b15 (by assumption) | exact kp9 (below_alloc _) (by assumption))
              (first
                | (go_at_call 30; (fail_if_success clear b11); refine (HV.out _).mono ?_; rintro e w11 ⟨rfl, bb11⟩; have b11 := bb11; replace hBW := hBW.trans (b11.mono hBW.size); replace q00 := below_cell b11 q00; replace q01 := below_cell b11 q01; replace q02 := below_cell b11 q02; replace q10 := below_cell b11 q10; replace q11 := below_cell b11 q11; replace l500 := below_cell b11 l500; replace l501 := below_cell b11 l501; replace l502 := below_cell b11 l502; replace l503 := below_cell b11 l503; replace hL50 := below_row b11 hL50; replace hp5 := hp5.later b11; replace hq5 := hq5.later b11)
                | (go_at_call 32; go_at_call_of 32 (Value.float .f64 a); (fail_if_success clear b12); refine (Ea.out _).mono ?_; rintro e w12 ⟨rfl, bb12⟩; have b12 := bb12; replace hBW := hBW.trans (b12.mono hBW.size); replace q00 := below_cell b12 q00; replace q01 := below_cell b12 q01; replace q02 := below_cell b12 q02; replace q10 := below_cell b12 q10; replace q11 := below_cell b12 q11; replace l500 := below_cell b12 l500; replace l501 := below_cell b12 l501; replace l502 := below_cell b12 l502; replace l503 := below_cell b12 l503; replace hL50 := below_row b12 hL50; replace hp5 := hp5.later b12; replace hq5 := hq5.later b12)
                | (go_at_call 31; (fail_if_success clear b13); refine (U1.out _ _ _ _ _ _ _ _ _ _ _ _ _ _ _).mono ?_; rintro e w13 ⟨rfl, bb13⟩; have b13 := bb13; replace hBW := hBW.trans (b13.mono hBW.size); replace q00 := below_cell b13 q00; replace q01 := below_cell b13 q01; replace q02 := below_cell b13 q02; replace q10 := below_cell b13 q10; replace q11 := below_cell b13 q11; replace l500 := below_cell b13 l500; replace l501 := below_cell b13 l501; replace l502 := below_cell b13 l502; replace l503 := below_cell b13 l503; replace hL50 := below_row b13 hL50; replace hp5 := hp5.later b13; replace hq5 := hq5.later b13)
                | (go_at_call 32; go_at_call_of 32 (Value.float .f64 b); (fail_if_success clear b14); refine (Eb.out _).mono ?_; rintro e w14 ⟨rfl, bb14⟩; have b14 := bb14; replace hBW := hBW.trans (b14.mono hBW.size); replace q00 := below_cell b14 q00; replace q01 := below_cell b14 q01; replace q02 := below_cell b14 q02; replace q10 := below_cell b14 q10; replace q11 := below_cell b14 q11; replace l500 := below_cell b14 l500; replace l501 := below_cell b14 l501; replace l502 := below_cell b14 l502; replace l503 := below_cell b14 l503; replace hL50 := below_row b14 hL50; replace hp5 := hp5.later b14; replace hq5 := hq5.later b14)
                | (go_at_call 31; (fail_if_success clear b15); refine (U2.out _ _ _ _ _ _ _ _ _ _ _ _ _ _ _).mono ?_; rintro e w15 ⟨rfl, bb15⟩; have b15 := bb15; replace hBW := hBW.trans (b15.mono hBW.size); replace q00 := below_cell b15 q00; replace q01 := below_cell b15 q01; replace q02 := below_cell b15 q02; replace q10 := below_cell b15 q10; replace q11 := below_cell b15 q11; replace l500 := below_cell b15 l500; replace l501 := below_cell b15 l501; replace l502 := below_cell b15 l502; replace l503 := below_cell b15 l503; replace hL50 := below_row b15 hL50; replace hp5 := hp5.later b15; replace hq5 := hq5.later b15))
          | fail
        go_wp2
        go_ret
        exact ⟨by rw [← HC.out]; rfl, hB.trans (hBW.mono hB.size)⟩
end Go.Proofs.Yticdpbkbnflgbaa
