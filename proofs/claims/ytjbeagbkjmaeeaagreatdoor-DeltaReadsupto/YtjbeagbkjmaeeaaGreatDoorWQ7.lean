/-
  The reference of layer 3: Neg, Sign, Abs, Add.
-/
import Derived.Test.YtjbeagbkjmaeeaaGreatDoorWQ5
import Derived.Test.YtjbeagbkjmaeeaaGreatDoorWQ6
import Derived.Test.YtjbeagbkjmaeeaaGreatDoorW13
namespace Go.Proofs.YtjbeagbkjmaeeaaGreatDoor
open Go.RowKit
set_option linter.unusedVariables false

theorem Low.nf {N Z : Int} {V1 V : Nat} (h : Low N (V1 : Int) Z V) (h1 : 0 < V1) : Low (rn (ng N) (am N) V1) ((rd V1 : Nat) : Int) Z V := by rw [rn_nf h1, rd_nf h1]; exact h
theorem low_ln {s : Bool} {X Y n m : Nat} {Z : Int} {V : Nat} (hX : X < BB ^ n) (hY : Y < BB ^ m) (h : Low (rn s X Y) ((rd Y : Nat) : Int) Z V) : ln (am Z) ≤ n ∧ ln V ≤ m + 1 := by
  have h1 := h.le
  rw [am_nat] at h1
  exact ⟨ln_le_of_lt (Nat.lt_of_le_of_lt (Nat.le_trans h1.1 (rn_am s X Y)) hX), ln_le_of_lt (Nat.lt_of_le_of_lt h1.2 (rd_lt hY))⟩
theorem Low.neg {A D Z : Int} {V : Nat} (h : Low A D Z V) : Low (-A) D (-Z) V := ⟨h.ne, h.pos, by have := h.eq; rw [Int.neg_mul, Int.neg_mul, this], by rw [am_neg]; exact h.cop⟩

theorem run_field0 (v0 v1 v2 : Value) (w : World) : (Instr.field 27 (.agg #[v0, v1, v2]) 0).run Tryz.prog w = .ok (.agg #[v0, v1]) w := by kernel_rfl
set_option maxHeartbeats 4000000 in
set_option maxRecDepth 100000 in
theorem vqNeg_is (s0 : Bool) (a0 : Option Addr) (n0 c0 X0 : Nat) (b0 : Option Addr) (m0 d0 Y0 : Nat) (Z : Int) (V : Nat) (w : World) (hc0 : n0 ≤ c0) (hm0 : n0 ≤ 35184372088010) (hS0 : Seg w a0 X0 n0) (hd0 : m0 ≤ d0) (hk0 : m0 ≤ 35184372088010) (hT0 : Seg w b0 Y0 m0) (hL : Low (-(rn s0 X0 Y0)) (rd Y0 : Nat) Z V) :
    Calls Tryz.prog 15 #[Value.agg #[Value.bool s0, Value.slice a0 n0 c0, Value.slice b0 m0 d0]] w fun e w' => ∃ p q, e = .returned (.agg #[.bool (ng Z), .slice p (ln (am Z)) (ln (am Z)), .slice q (ln V) (ln V)]) ∧ New w w' p (am Z) (ln (am Z)) ∧ New w w' q V (ln V) := by
  obtain ⟨Z1, V1, h1⟩ := low_ex (rn s0 X0 Y0) (rd Y0 : Nat) (rd_ne Y0)
  obtain ⟨N, hN⟩ : ∃ N, -Z1 = N := ⟨_, rfl⟩
  have l1 := low_ln hS0.1 hT0.1 h1
  have lN : ln (am N) ≤ n0 := by rw [← hN, am_neg]; exact l1.1
  have lV := l1.2
  have lZ := l1.1
  have h2 : Low (rn (ng N) (am N) V1) ((rd V1 : Nat) : Int) Z V := Low.nf (hL.congr (by have := h1.pos; omega) (by have := h1.eq; rw [← hN]; grind)) h1.pos
  have H1 := hide' h1
  have H2 := hide' h2
  have HN := hide' (fun w' p k => vNeg_is (ng Z1) p (ln (am Z1)) (ln (am Z1)) (am Z1) N w' (by omega) k (by rw [sg_na]; exact hN))
  clear hL h1 h2 hN l1
  go_enter Tryz.func15, Tryz.ntmps15
  go_wp2_with fail
  obtain ⟨W, hW⟩ : ∃ W, ((w.alloc (.cells #[.bool s0, .slice a0 n0 c0, .slice b0 m0 d0] 27)).alloc (.cells #[.bool false, .slice none 0 0, .slice none 0 0] 27)) = W := ⟨_, rfl⟩
  have q00 : W.cell? ⟨w.heap.size, 0, none⟩ = some (.bool s0) := by subst hW; go_simp
  have q01 : W.cell? ⟨w.heap.size, 1, none⟩ = some (.slice a0 n0 c0) := by subst hW; go_simp
  have q02 : W.cell? ⟨w.heap.size, 2, none⟩ = some (.slice b0 m0 d0) := by subst hW; go_simp
  have r00 : W.cell? ⟨w.heap.size + 1, 0, none⟩ = some (.bool false) := by subst hW; go_simp
  have r01 : W.cell? ⟨w.heap.size + 1, 1, none⟩ = some (.slice none 0 0) := by subst hW; go_simp
  have r02 : W.cell? ⟨w.heap.size + 1, 2, none⟩ = some (.slice none 0 0) := by subst hW; go_simp
  have hB : Below w.heap.size w W := by subst hW; exact (((Below.refl _ _).alloc (by (try simp only [World.size_alloc]); omega) _).alloc (by (try simp only [World.size_alloc]); omega) _)
  have hR0 : Row W (w.heap.size + 1) := by
    have := row_new ((w.alloc (.cells #[.bool s0, .slice a0 n0 c0, .slice b0 m0 d0] 27))) #[.bool false, .slice none 0 0, .slice none 0 0] 27
    try simp only [World.size_alloc] at this
    subst hW; exact this
  have hP0 : Row W (w.heap.size) := by
    have := row_new (w) #[.bool s0, .slice a0 n0 c0, .slice b0 m0 d0] 27
    try simp only [World.size_alloc] at this
    subst hW; exact (this.alloc _)
  have hz : W.heap.size = w.heap.size + 1 + 1 := by subst hW; simp only [World.size_alloc]
  rw [hW]
  clear hW
  have hBW : Below W.heap.size W W := Below.refl _ _
  refine (vqNorm_is s0 a0 n0 c0 X0 b0 m0 d0 Y0 V1 Z1 _ (by omega) (sb hS0 hB hBW) (by omega) (sb hT0 hB hBW) H1.out).mono ?_
  rintro e w11 ⟨p11, q11, rfl, hp11, hq11⟩
  have b11 := hp11.below
  replace hp11 := hp11.back hBW
  replace hq11 := hq11.back hBW
  replace hBW := hBW.trans (b11.mono hBW.size)
  replace q00 := below_cell b11 q00
  replace q01 := below_cell b11 q01
  replace q02 := below_cell b11 q02
  replace r00 := below_cell b11 r00
  replace r01 := below_cell b11 r01
  replace r02 := below_cell b11 r02
  replace hR0 := below_row b11 hR0
  replace hP0 := below_row b11 hP0
  have hsB := hBW.size
  have hM : Mid w.heap.size W.heap.size w11 (((w11.setCell ⟨w.heap.size, 0, none⟩ (.bool (ng Z1))).setCell ⟨w.heap.size, 1, none⟩ (.slice p11 (ln (am Z1)) (ln (am Z1)))).setCell ⟨w.heap.size, 2, none⟩ (.slice q11 (ln V1) (ln V1))) := ((((Mid.refl _ _ _).set _ _ (by omega) (by omega) _).set _ _ (by omega) (by omega) _).set _ _ (by omega) (by omega) _)
  have eM := set3_same (w := w11) (c := w.heap.size) (u0 := .bool (ng Z1)) (u1 := .slice p11 (ln (am Z1)) (ln (am Z1))) (u2 := .slice q11 (ln V1) (ln V1)) q00 q01 q02
  have q00_ : ((((w11.setCell ⟨w.heap.size, 0, none⟩ (.bool (ng Z1))).setCell ⟨w.heap.size, 1, none⟩ (.slice p11 (ln (am Z1)) (ln (am Z1)))).setCell ⟨w.heap.size, 2, none⟩ (.slice q11 (ln V1) (ln V1)))).cell? ⟨w.heap.size, 0, none⟩ = some (.bool (ng Z1)) := eM.1
  have q01_ : ((((w11.setCell ⟨w.heap.size, 0, none⟩ (.bool (ng Z1))).setCell ⟨w.heap.size, 1, none⟩ (.slice p11 (ln (am Z1)) (ln (am Z1)))).setCell ⟨w.heap.size, 2, none⟩ (.slice q11 (ln V1) (ln V1)))).cell? ⟨w.heap.size, 1, none⟩ = some (.slice p11 (ln (am Z1)) (ln (am Z1))) := eM.2.1
  have q02_ : ((((w11.setCell ⟨w.heap.size, 0, none⟩ (.bool (ng Z1))).setCell ⟨w.heap.size, 1, none⟩ (.slice p11 (ln (am Z1)) (ln (am Z1)))).setCell ⟨w.heap.size, 2, none⟩ (.slice q11 (ln V1) (ln V1)))).cell? ⟨w.heap.size, 2, none⟩ = some (.slice q11 (ln V1) (ln V1)) := eM.2.2
  have r00_ : ((((w11.setCell ⟨w.heap.size, 0, none⟩ (.bool (ng Z1))).setCell ⟨w.heap.size, 1, none⟩ (.slice p11 (ln (am Z1)) (ln (am Z1)))).setCell ⟨w.heap.size, 2, none⟩ (.slice q11 (ln V1) (ln V1)))).cell? ⟨w.heap.size + 1, 0, none⟩ = some (.bool false) := (set3_far (by omega)).trans r00
  have r01_ : ((((w11.setCell ⟨w.heap.size, 0, none⟩ (.bool (ng Z1))).setCell ⟨w.heap.size, 1, none⟩ (.slice p11 (ln (am Z1)) (ln (am Z1)))).setCell ⟨w.heap.size, 2, none⟩ (.slice q11 (ln V1) (ln V1)))).cell? ⟨w.heap.size + 1, 1, none⟩ = some (.slice none 0 0) := (set3_far (by omega)).trans r01
  have r02_ : ((((w11.setCell ⟨w.heap.size, 0, none⟩ (.bool (ng Z1))).setCell ⟨w.heap.size, 1, none⟩ (.slice p11 (ln (am Z1)) (ln (am Z1)))).setCell ⟨w.heap.size, 2, none⟩ (.slice q11 (ln V1) (ln V1)))).cell? ⟨w.heap.size + 1, 2, none⟩ = some (.slice none 0 0) := (set3_far (by omega)).trans r02
  have hR0_ := (((hR0.setCell ⟨w.heap.size, 0, none⟩ (.bool (ng Z1))).setCell ⟨w.heap.size, 1, none⟩ (.slice p11 (ln (am Z1)) (ln (am Z1)))).setCell ⟨w.heap.size, 2, none⟩ (.slice q11 (ln V1) (ln V1)))
  have fzhR0 := fun o => hR0.frozen o
  have hP0_ := (((hP0.setCell ⟨w.heap.size, 0, none⟩ (.bool (ng Z1))).setCell ⟨w.heap.size, 1, none⟩ (.slice p11 (ln (am Z1)) (ln (am Z1)))).setCell ⟨w.heap.size, 2, none⟩ (.slice q11 (ln V1) (ln V1)))
  have fzhP0 := fun o => hP0.frozen o
  have khp11 := (hp11.mid hB hM).seg
  clear hp11
  have khq11 := (hq11.mid hB hM).seg
  clear hq11
  have hBn := (hB.trans (hBW.mono hB.size)).trans (hM.below (Nat.le_trans hB.size hBW.size))
  have hsM := hM.size
  clear hM eM
  go_wp2_with fail
  clear q00 q01 q02 r00 r01 r02 hR0 hP0 fzhR0 fzhP0 hB hBW
  generalize (((w11.setCell ⟨w.heap.size, 0, none⟩ (.bool (ng Z1))).setCell ⟨w.heap.size, 1, none⟩ (.slice p11 (ln (am Z1)) (ln (am Z1)))).setCell ⟨w.heap.size, 2, none⟩ (.slice q11 (ln V1) (ln V1))) = w11y at q00_ q01_ q02_ r00_ r01_ r02_ hR0_ hP0_ khp11 khq11 hBn hsM ⊢
  have q00 := q00_
  clear q00_
  have q01 := q01_
  clear q01_
  have q02 := q02_
  clear q02_
  have r00 := r00_
  clear r00_
  have r01 := r01_
  clear r01_
  have r02 := r02_
  clear r02_
  have hR0 := hR0_
  clear hR0_
  have hP0 := hP0_
  clear hP0_
  have hB := hBn
  clear hBn
  have hBW : Below w11y.heap.size w11y w11y := Below.refl _ _
  replace hBW := hBW.drew
  replace khp11 := khp11.drew
  replace khq11 := khq11.drew
  first
    | go_region_held3 (fun w' => w'.cell? ⟨w.heap.size, 0, none⟩ = some (.bool (ng Z1)) ∧ w'.cell? ⟨w.heap.size, 1, none⟩ = some (.slice p11 (ln (am Z1)) (ln (am Z1))) ∧ w'.cell? ⟨w.heap.size, 2, none⟩ = some (.slice q11 (ln V1) (ln V1)) ∧ Below w.heap.size w w')
        (first | exact ⟨q00, q01, q02, hB.trans (hBW.mono hB.size)⟩ | exact kp3 b12 (by assumption) | exact kp3 b13 (by assumption) | exact kp3 (below_alloc _) (by assumption) | exact kp3 (below_alloc _) ⟨q00, q01, q02, hB.trans (hBW.mono hB.size)⟩ | exact kpT3_3 (by assumption) (by omega) (by omega) (by omega) (by omega))
        (first
          | (go_at_call 33; (fail_if_success clear b12); refine (HN.out _ p11 khp11).mono ?_; rintro e w12 ⟨a12, rfl, h1⟩; have b12 := h1.below; replace h1 := h1.back hBW; replace hBW := hBW.trans (b12.mono hBW.size); replace q00 := below_cell b12 q00; replace q01 := below_cell b12 q01; replace q02 := below_cell b12 q02; replace r00 := below_cell b12 r00; replace r01 := below_cell b12 r01; replace r02 := below_cell b12 r02; replace hR0 := below_row b12 hR0; replace hP0 := below_row b12 hP0; replace khp11 := khp11.later b12; replace khq11 := khq11.later b12)
          | (go_at_call 27; (fail_if_success clear b13); refine (vqNorm_is (ng N) a12 (ln (am N)) (ln (am N)) (am N) q11 (ln V1) (ln V1) V1 V Z _ (by omega) h1.seg (by omega) khq11 H2.out).mono ?_; rintro e w13 ⟨p13, q13, rfl, hp13, hq13⟩; have b13 := hp13.below; replace hp13 := hp13.back hBW; replace hq13 := hq13.back hBW; replace hBW := hBW.trans (b13.mono hBW.size); replace q00 := below_cell b13 q00; replace q01 := below_cell b13 q01; replace q02 := below_cell b13 q02; replace r00 := below_cell b13 r00; replace r01 := below_cell b13 r01; replace r02 := below_cell b13 r02; replace hR0 := below_row b13 hR0; replace hP0 := below_row b13 hP0; replace khp11 := khp11.later b13; replace khq11 := khq11.later b13; replace h1 := h1.later b13; have fz := fun o => hR0.frozen o))
    | fail
  have fz0 := fun o => hR0.frozen o
  go_wp2
  all_goals refine bodyPost_ret (v := Value.agg #[Value.bool (ng Z), Value.slice p13 (ln (am Z)) (ln (am Z)), Value.slice q13 (ln V) (ln V)]) (by rw [results_cell rfl]; go_simp) rfl ?_
  all_goals exact ⟨p13, q13, rfl, hp13.mid hB (((((Mid.refl _ _ _).set _ _ (by omega) (by omega) _).set _ _ (by omega) (by omega) _).set _ _ (by omega) (by omega) _)), hq13.mid hB (((((Mid.refl _ _ _).set _ _ (by omega) (by omega) _).set _ _ (by omega) (by omega) _).set _ _ (by omega) (by omega) _))⟩

set_option maxHeartbeats 4000000 in
set_option maxRecDepth 100000 in
theorem vqSign_is (s0 : Bool) (a0 : Option Addr) (n0 c0 X0 : Nat) (b0 : Option Addr) (m0 d0 Y0 : Nat) (C : Int) (w : World) (hc0 : n0 ≤ c0) (hm0 : n0 ≤ 70368744177300) (hS0 : Seg w a0 X0 n0) (hd0 : m0 ≤ d0) (hk0 : m0 ≤ 70368744177300) (hT0 : Seg w b0 Y0 m0) (hC : sgn (rn s0 X0 Y0) = C) :
    Calls Tryz.prog 31 #[Value.agg #[Value.bool s0, Value.slice a0 n0 c0, Value.slice b0 m0 d0]] w fun e w' => e = .returned (.int .i64 C) ∧ Below w.heap.size w w' := by
  obtain ⟨Z1, V1, h1⟩ := low_ex (rn s0 X0 Y0) (rd Y0 : Nat) (rd_ne Y0)
  have l1 := low_ln hS0.1 hT0.1 h1
  have lZ := l1.1
  have hs : sgn Z1 = C := by rw [h1.sgn (by have := rd_pos Y0; omega)]; exact hC
  have H1 := hide' h1
  have HS' := fun w' p k => vSign_is (ng Z1) p (ln (am Z1)) (ln (am Z1)) (am Z1) Z1 w' (by omega) k (sg_na Z1)
  rw [hs] at HS'
  have HS := hide' HS'
  have hf := run_field0
  clear hC h1 l1 hs HS'
  go_enter Tryz.func31, Tryz.ntmps31
  go_wp2_with fail
  obtain ⟨W, hW⟩ : ∃ W, (w.alloc (.cells #[.bool s0, .slice a0 n0 c0, .slice b0 m0 d0] 27)) = W := ⟨_, rfl⟩
  have q00 : W.cell? ⟨w.heap.size, 0, none⟩ = some (.bool s0) := by subst hW; go_simp
  have q01 : W.cell? ⟨w.heap.size, 1, none⟩ = some (.slice a0 n0 c0) := by subst hW; go_simp
  have q02 : W.cell? ⟨w.heap.size, 2, none⟩ = some (.slice b0 m0 d0) := by subst hW; go_simp
  have hB : Below w.heap.size w W := by subst hW; exact ((Below.refl _ _).alloc (by (try simp only [World.size_alloc]); omega) _)
  have hz : W.heap.size = w.heap.size + 1 := by subst hW; simp only [World.size_alloc]
  rw [hW]
  clear hW
  have hBW : Below W.heap.size W W := Below.refl _ _
  refine (vqNorm_is s0 a0 n0 c0 X0 b0 m0 d0 Y0 V1 Z1 _ (by omega) (sb hS0 hB hBW) (by omega) (sb hT0 hB hBW) H1.out).mono ?_
  rintro e w11 ⟨p11, q11, rfl, hp11, hq11⟩
  have b11 := hp11.below
  replace hp11 := hp11.back hBW
  replace hq11 := hq11.back hBW
  replace hBW := hBW.trans (b11.mono hBW.size)
  replace q00 := below_cell b11 q00
  replace q01 := below_cell b11 q01
  replace q02 := below_cell b11 q02
  go_wp2_with fail
  refine (HS.out _ p11 hp11.seg).mono ?_
  rintro e w12 ⟨rfl, b12⟩
  replace hBW := hBW.trans (b12.mono hBW.size)
  replace q00 := below_cell b12 q00
  replace q01 := below_cell b12 q01
  replace q02 := below_cell b12 q02
  replace hp11 := hp11.later b12
  replace hq11 := hq11.later b12
  go_wp2
  go_ret
  exact ⟨rfl, hB.trans (hBW.mono hB.size)⟩

end Go.Proofs.YtjbeagbkjmaeeaaGreatDoor
