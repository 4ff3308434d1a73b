/-
  Spans: the reference's Valid.
-/
import Derived.Test.YticdpbkbnflgbaaWFH
namespace Go.Proofs.Yticdpbkbnflgbaa
open Go.RowKit
set_option linter.unusedVariables false

theorem fv_lt {b c : Nat} : fv b < fv c ↔ fkey b < fkey c := sgd_lt (fneg b) (fneg c) (b % SB) (c % SB)
theorem low_cmp {z T b c : Nat} {Z1 Z2 : Int} {V1 V2 : Nat} (hT : T = 2 ^ z) (h1 : Low (fv b) (T : Int) Z1 V1) (h2 : Low (fv c) (T : Int) Z2 V2) : sgn (Z1 * (V2 : Int) - Z2 * (V1 : Int)) = sgn (fv b - fv c) := by
  have hT0 : (0 : Int) < T := by rw [hT]; have := Nat.two_pow_pos z; omega
  have p1 := h1.pos
  have p2 := h2.pos
  have e1 := h1.eq
  have e2 := h2.eq
  have a := sgn_mul_pos (a := Z1 * (V2 : Int) - Z2 * (V1 : Int)) hT0
  have b' := sgn_mul_pos (a := fv b - fv c) (b := (V1 : Int) * (V2 : Int)) (Int.mul_pos (by omega) (by omega))
  rw [← a, ← b']
  congr 1
  grind
theorem sgn_lt0 {a : Int} : sgn a < 0 ↔ a < 0 := by
  rcases Int.lt_trichotomy a 0 with g | g | g
  · rw [sgn_neg g]; omega
  · subst g; decide
  · rw [sgn_pos g]; omega
theorem inf_hi {b : Nat} (hb : b < 18446744073709551616) (h : b % SB = FI) (h2 : b ≠ SB + FI) : b = FI := by
  have e1 := FIv; have e2 := SBv
  rw [e2] at h h2; omega
theorem inf_lo {b : Nat} (hb : b < 18446744073709551616) (h : b % SB = FI) (h2 : b ≠ FI) : b = SB + FI := by
  have e1 := FIv; have e2 := SBv
  rw [e2] at h ⊢; omega
theorem key_rng {b : Nat} (h : b % SB ≤ FI) : -(FI : Int) ≤ fkey b ∧ fkey b ≤ FI := by
  unfold fkey; split <;> omega

set_option maxHeartbeats 4000000 in
set_option maxRecDepth 100000 in
theorem vValid_is (a b : Nat) (c : Bool) (w : World) (ha : a < 18446744073709551616) (hb : b < 18446744073709551616) (hc : vaB a b = c) :
    Calls Try.prog 30 #[Value.agg #[Value.float .f64 a, Value.float .f64 b]] w fun e w' => e = .returned (.bool c) ∧ Below w.heap.size w w' := by
  have hbr := bits_run
  have NA := hide' (fun w' => vnan_any a w' ha)
  have NB := hide' (fun w' => vnan_any b w' hb)
  unfold vaB at hc
  by_cases n1 : FI < a % SB
  · have d1 : decide (FI < a % SB) = true := decide_eq_true n1
    obtain rfl : c = false := by rw [← hc]; exact decide_eq_false (fun h => absurd n1 (by omega))
    clear n1 hc
    go_enter Try.func30, Try.ntmps30
    go_upto_region 1 with fail
    obtain ⟨W, hW⟩ : ∃ W, (w.alloc (.cells #[.float .f64 a, .float .f64 b] 30)) = W := ⟨_, rfl⟩
    have q00 : W.cell? ⟨w.heap.size, 0, none⟩ = some (.float .f64 a) := by subst hW; go_simp
    have q01 : W.cell? ⟨w.heap.size, 1, none⟩ = some (.float .f64 b) := by subst hW; go_simp
    have hB : Below w.heap.size w W := by subst hW; exact ((Below.refl _ _).alloc (by (try simp only [World.size_alloc]); omega) _)
    have hz : W.heap.size = w.heap.size + 1 := by subst hW; simp only [World.size_alloc]
    rw [hW]
    clear hW
    have hBW : Below W.heap.size W W := Below.refl _ _
    go_wp2_with fail
    refine (NA.out _).mono ?_
    rintro e w1 ⟨rfl, rfl⟩
    rw [d1]
    go_wp2
    go_ret
    exact ⟨rfl, hB⟩
  · have d1 : decide (FI < a % SB) = false := decide_eq_false n1
    by_cases n2 : FI < b % SB
    · have d2 : decide (FI < b % SB) = true := decide_eq_true n2
      obtain rfl : c = false := by rw [← hc]; exact decide_eq_false (fun h => absurd n2 (by omega))
      clear n1 n2 hc
      go_enter Try.func30, Try.ntmps30
      go_upto_region 1 with fail
      obtain ⟨W, hW⟩ : ∃ W, (w.alloc (.cells #[.float .f64 a, .float .f64 b] 30)) = W := ⟨_, rfl⟩
      have q00 : W.cell? ⟨w.heap.size, 0, none⟩ = some (.float .f64 a) := by subst hW; go_simp
      have q01 : W.cell? ⟨w.heap.size, 1, none⟩ = some (.float .f64 b) := by subst hW; go_simp
      have hB : Below w.heap.size w W := by subst hW; exact ((Below.refl _ _).alloc (by (try simp only [World.size_alloc]); omega) _)
      have hz : W.heap.size = w.heap.size + 1 := by subst hW; simp only [World.size_alloc]
      rw [hW]
      clear hW
      have hBW : Below W.heap.size W W := Below.refl _ _
      go_wp2_with fail
      refine (NA.out _).mono ?_
      rintro e w1 ⟨rfl, rfl⟩
      rw [d1]
      go_wp2_with fail
      refine (NB.out _).mono ?_
      rintro e w1 ⟨rfl, rfl⟩
      rw [d2]
      go_wp2
      go_ret
      exact ⟨rfl, hB⟩
    · have d2 : decide (FI < b % SB) = false := decide_eq_false n2
      by_cases i1 : a = FI
      · have d3 : ((a : Int) == 9218868437227405312) = true := by rw [beq_iff_eq, i1]; rfl
        obtain rfl : c = false := by rw [← hc]; exact decide_eq_false (fun h => h.2.2.2.1 i1)
        clear n1 n2 i1 hc
        go_enter Try.func30, Try.ntmps30
        go_upto_region 1 with fail
        obtain ⟨W, hW⟩ : ∃ W, (w.alloc (.cells #[.float .f64 a, .float .f64 b] 30)) = W := ⟨_, rfl⟩
        have q00 : W.cell? ⟨w.heap.size, 0, none⟩ = some (.float .f64 a) := by subst hW; go_simp
        have q01 : W.cell? ⟨w.heap.size, 1, none⟩ = some (.float .f64 b) := by subst hW; go_simp
        have hB : Below w.heap.size w W := by subst hW; exact ((Below.refl _ _).alloc (by (try simp only [World.size_alloc]); omega) _)
        have hz : W.heap.size = w.heap.size + 1 := by subst hW; simp only [World.size_alloc]
        rw [hW]
        clear hW
        have hBW : Below W.heap.size W W := Below.refl _ _
        go_wp2_with fail
        refine (NA.out _).mono ?_
        rintro e w1 ⟨rfl, rfl⟩
        rw [d1]
        go_wp2_with fail
        refine (NB.out _).mono ?_
        rintro e w1 ⟨rfl, rfl⟩
        rw [d2]
        go_wp2
        go_ret
        exact ⟨rfl, hB⟩
      · have d3 : ((a : Int) == 9218868437227405312) = false := by rw [beq_eq_false_iff_ne]; rw [FIv] at i1; omega
        by_cases i2 : b = SB + FI
        · have d4 : ((b : Int) == 18442240474082181120) = true := by rw [beq_iff_eq, i2]; rfl
          obtain rfl : c = false := by rw [← hc]; exact decide_eq_false (fun h => h.2.2.2.2 i2)
          clear n1 n2 i1 i2 hc
          go_enter Try.func30, Try.ntmps30
          go_upto_region 1 with fail
          obtain ⟨W, hW⟩ : ∃ W, (w.alloc (.cells #[.float .f64 a, .float .f64 b] 30)) = W := ⟨_, rfl⟩
          have q00 : W.cell? ⟨w.heap.size, 0, none⟩ = some (.float .f64 a) := by subst hW; go_simp
          have q01 : W.cell? ⟨w.heap.size, 1, none⟩ = some (.float .f64 b) := by subst hW; go_simp
          have hB : Below w.heap.size w W := by subst hW; exact ((Below.refl _ _).alloc (by (try simp only [World.size_alloc]); omega) _)
          have hz : W.heap.size = w.heap.size + 1 := by subst hW; simp only [World.size_alloc]
          rw [hW]
          clear hW
          have hBW : Below W.heap.size W W := Below.refl _ _
          go_wp2_with fail
          refine (NA.out _).mono ?_
          rintro e w1 ⟨rfl, rfl⟩
          rw [d1]
          go_wp2_with fail
          refine (NB.out _).mono ?_
          rintro e w1 ⟨rfl, rfl⟩
          rw [d2]
          go_wp2
          go_ret
          exact ⟨rfl, hB⟩
        · have d4 : ((b : Int) == 18442240474082181120) = false := by rw [beq_eq_false_iff_ne]; rw [FIv, SBv] at i2; omega
          have hcc : c = decide (fkey a ≤ fkey b) := by rw [← hc, decide_eq_decide]; exact ⟨fun h => h.2.2.1, fun h => ⟨by omega, by omega, h, i1, i2⟩⟩
          clear hc
          obtain ⟨z, hz⟩ : ∃ z : Nat, z = 1074 := ⟨_, rfl⟩
          obtain ⟨T, hT⟩ : ∃ T : Nat, T = 2 ^ z := ⟨_, rfl⟩
          have hT0 : (T : Int) ≠ 0 := by rw [hT]; have := Nat.two_pow_pos z; omega
          by_cases fa : a % SB < FI
          · by_cases fb : b % SB < FI
            · skip
              obtain ⟨Za, Va, ga⟩ := low_ex (fv a) (T : Int) hT0
              have pa := ga.pos
              obtain ⟨la, ma⟩ := low_fl hz hT (by unfold fv; rw [am_sg]; exact amt_ln fa) ga
              have Ea := hide' (fun w' => endOf_num z T a Za Va w' hz hT ha fa ga)
              obtain ⟨Zb, Vb, gb⟩ := low_ex (fv b) (T : Int) hT0
              have pb := gb.pos
              obtain ⟨lb, mb⟩ := low_fl hz hT (by unfold fv; rw [am_sg]; exact amt_ln fb) gb
              have Eb := hide' (fun w' => endOf_num z T b Zb Vb w' hz hT hb fb gb)
              obtain ⟨C, hC⟩ : ∃ C, sgn (Zb * (Va : Int) - Za * (Vb : Int)) = C := ⟨_, rfl⟩
              have hcv : c = !(decide (C < 0)) := by
                rw [hcc, ← hC, low_cmp hT gb ga]
                by_cases h : fkey a ≤ fkey b
                · rw [decide_eq_true h, decide_eq_false]; rfl
                  rw [sgn_lt0]; intro g; have := fv_lt.1 (show fv b < fv a by omega); omega
                · rw [decide_eq_false h, decide_eq_true]; rfl
                  rw [sgn_lt0]; have := fv_lt.2 (show fkey b < fkey a by omega); omega
              have U := hide' (fun w' p q p' q' k1 k2 k3 k4 => under_num Zb Za Vb Va p q p' q' C w' (by omega) (by omega) (by omega) (by omega) pb pa k1 k2 k3 k4 hC)
              clear hC
              clear hcc n1 n2 i1 i2 hz hT hT0 fa fb ga pa gb pb
              go_enter Try.func30, Try.ntmps30
              go_upto_region 1 with fail
              obtain ⟨W, hW⟩ : ∃ W, (w.alloc (.cells #[.float .f64 a, .float .f64 b] 30)) = W := ⟨_, rfl⟩
              have q00 : W.cell? ⟨w.heap.size, 0, none⟩ = some (.float .f64 a) := by subst hW; go_simp
              have q01 : W.cell? ⟨w.heap.size, 1, none⟩ = some (.float .f64 b) := by subst hW; go_simp
              have hB : Below w.heap.size w W := by subst hW; exact ((Below.refl _ _).alloc (by (try simp only [World.size_alloc]); omega) _)
              have hz : W.heap.size = w.heap.size + 1 := by subst hW; simp only [World.size_alloc]
              rw [hW]
              clear hW
              have hBW : Below W.heap.size W W := Below.refl _ _
              go_wp2_with fail
              refine (NA.out _).mono ?_
              rintro e w1 ⟨rfl, rfl⟩
              rw [d1]
              go_wp2_with fail
              refine (NB.out _).mono ?_
              rintro e w1 ⟨rfl, rfl⟩
              rw [d2]
              go_wp2_with fail
              replace hBW := hBW.drew
              first
                | go_region_held3 (fun w' => w'.cell? ⟨w.heap.size, 0, none⟩ = some (.float .f64 a) ∧ w'.cell? ⟨w.heap.size, 1, none⟩ = some (.float .f64 b) ∧ Below w.heap.size w w')
                    (first | exact ⟨q00, q01, hB.trans (hBW.mono hB.size)⟩ | exact kp2 b5 (by assumption) | exact kp2 b6 (by assumption) | exact kp2 b7 (by assumption) | exact kp2 (below_alloc _) (by assumption))
                    (first
                      | (go_at_call 32; go_at_call_of 32 (Value.float .f64 b); (fail_if_success clear b5); refine (Eb.out _).mono ?_; rintro e w5 ⟨pb, qb, rfl, hpb, hqb⟩; have b5 := hpb.below; replace hpb := hpb.back hBW; replace hqb := hqb.back hBW; replace hBW := hBW.trans (b5.mono hBW.size); replace q00 := below_cell b5 q00; replace q01 := below_cell b5 q01)
                      | (go_at_call 32; go_at_call_of 32 (Value.float .f64 a); (fail_if_success clear b6); refine (Ea.out _).mono ?_; rintro e w6 ⟨pa, qa, rfl, hpa, hqa⟩; have b6 := hpa.below; replace hpa := hpa.back hBW; replace hqa := hqa.back hBW; replace hBW := hBW.trans (b6.mono hBW.size); replace q00 := below_cell b6 q00; replace q01 := below_cell b6 q01; replace hpb := hpb.later b6; replace hqb := hqb.later b6)
                      | (go_at_call 31; (fail_if_success clear b7); refine (U.out _ _ _ _ _ hpb.seg hqb.seg hpa.seg hqa.seg).mono ?_; rintro e w7 ⟨rfl, bb7⟩; have b7 := bb7; replace hBW := hBW.trans (b7.mono hBW.size); replace q00 := below_cell b7 q00; replace q01 := below_cell b7 q01; replace hpb := hpb.later b7; replace hqb := hqb.later b7; replace hpa := hpa.later b7; replace hqa := hqa.later b7))
                | fail
              go_wp2
              go_ret
              exact ⟨by rw [hcv]; rfl, hB.trans (hBW.mono hB.size)⟩
            · skip
              obtain ⟨Za, Va, ga⟩ := low_ex (fv a) (T : Int) hT0
              have pa := ga.pos
              obtain ⟨la, ma⟩ := low_fl hz hT (by unfold fv; rw [am_sg]; exact amt_ln fa) ga
              have Ea := hide' (fun w' => endOf_num z T a Za Va w' hz hT ha fa ga)
              have eb : faI b = 1 := if_pos (inf_hi hb (by omega) i2)
              have Eb := hide' (fun w' => endOf_inf b w' hb (by omega))
              rw [eb] at Eb
              have hct : c = true := by
                rw [hcc, decide_eq_true_iff]
                have r1 := key_rng (b := a) (by omega)
                have r2 := key_rng (b := b) (by omega)
                have k1 : fkey b = (FI : Int) := by rw [inf_hi hb (by omega) i2]; rfl
                omega
              have U := hide' (fun w' s1 a1 n1 c1 b1 m1 d1 s2 a2 n2 c2 b2 m2 d2 => under_far 1 s1 a1 n1 c1 b1 m1 d1 0 s2 a2 n2 c2 b2 m2 d2 false w' (by decide) (by decide))
              clear hcc n1 n2 i1 i2 hz hT hT0 fa fb ga pa eb
              go_enter Try.func30, Try.ntmps30
              go_upto_region 1 with fail
              obtain ⟨W, hW⟩ : ∃ W, (w.alloc (.cells #[.float .f64 a, .float .f64 b] 30)) = W := ⟨_, rfl⟩
              have q00 : W.cell? ⟨w.heap.size, 0, none⟩ = some (.float .f64 a) := by subst hW; go_simp
              have q01 : W.cell? ⟨w.heap.size, 1, none⟩ = some (.float .f64 b) := by subst hW; go_simp
              have hB : Below w.heap.size w W := by subst hW; exact ((Below.refl _ _).alloc (by (try simp only [World.size_alloc]); omega) _)
              have hz : W.heap.size = w.heap.size + 1 := by subst hW; simp only [World.size_alloc]
              rw [hW]
              clear hW
              have hBW : Below W.heap.size W W := Below.refl _ _
              go_wp2_with fail
              refine (NA.out _).mono ?_
              rintro e w1 ⟨rfl, rfl⟩
              rw [d1]
              go_wp2_with fail
              refine (NB.out _).mono ?_
              rintro e w1 ⟨rfl, rfl⟩
              rw [d2]
              go_wp2_with fail
              replace hBW := hBW.drew
              first
                | go_region_held3 (fun w' => w'.cell? ⟨w.heap.size, 0, none⟩ = some (.float .f64 a) ∧ w'.cell? ⟨w.heap.size, 1, none⟩ = some (.float .f64 b) ∧ Below w.heap.size w w')
                    (first | exact ⟨q00, q01, hB.trans (hBW.mono hB.size)⟩ | exact kp2 b5 (by assumption) | exact kp2 b6 (by assumption) | exact kp2 b7 (by assumption) | exact kp2 (below_alloc _) (by assumption))
                    (first
                      | (go_at_call 32; go_at_call_of 32 (Value.float .f64 b); (fail_if_success clear b5); refine (Eb.out _).mono ?_; rintro e w5 ⟨rfl, bb5⟩; have b5 := bb5; replace hBW := hBW.trans (b5.mono hBW.size); replace q00 := below_cell b5 q00; replace q01 := below_cell b5 q01)
                      | (go_at_call 32; go_at_call_of 32 (Value.float .f64 a); (fail_if_success clear b6); refine (Ea.out _).mono ?_; rintro e w6 ⟨pa, qa, rfl, hpa, hqa⟩; have b6 := hpa.below; replace hpa := hpa.back hBW; replace hqa := hqa.back hBW; replace hBW := hBW.trans (b6.mono hBW.size); replace q00 := below_cell b6 q00; replace q01 := below_cell b6 q01)
                      | (go_at_call 31; (fail_if_success clear b7); refine (U.out _ _ _ _ _ _ _ _ _ _ _ _ _ _ _).mono ?_; rintro e w7 ⟨rfl, bb7⟩; have b7 := bb7; replace hBW := hBW.trans (b7.mono hBW.size); replace q00 := below_cell b7 q00; replace q01 := below_cell b7 q01; replace hpa := hpa.later b7; replace hqa := hqa.later b7))
                | fail
              go_wp2
              go_ret
              exact ⟨by rw [hct]; rfl, hB.trans (hBW.mono hB.size)⟩
          · by_cases fb : b % SB < FI
            · skip
              have ea : faI a = -1 := if_neg i1
              have Ea := hide' (fun w' => endOf_inf a w' ha (by omega))
              rw [ea] at Ea
              obtain ⟨Zb, Vb, gb⟩ := low_ex (fv b) (T : Int) hT0
              have pb := gb.pos
              obtain ⟨lb, mb⟩ := low_fl hz hT (by unfold fv; rw [am_sg]; exact amt_ln fb) gb
              have Eb := hide' (fun w' => endOf_num z T b Zb Vb w' hz hT hb fb gb)
              have hct : c = true := by
                rw [hcc, decide_eq_true_iff]
                have r1 := key_rng (b := a) (by omega)
                have r2 := key_rng (b := b) (by omega)
                have k1 : fkey a = -(FI : Int) := by rw [inf_lo ha (by omega) i1]; rfl
                omega
              have U := hide' (fun w' s1 a1 n1 c1 b1 m1 d1 s2 a2 n2 c2 b2 m2 d2 => under_far 0 s1 a1 n1 c1 b1 m1 d1 (-1) s2 a2 n2 c2 b2 m2 d2 false w' (by decide) (by decide))
              clear hcc n1 n2 i1 i2 hz hT hT0 fa fb ea gb pb
              go_enter Try.func30, Try.ntmps30
              go_upto_region 1 with fail
              obtain ⟨W, hW⟩ : ∃ W, (w.alloc (.cells #[.float .f64 a, .float .f64 b] 30)) = W := ⟨_, rfl⟩
              have q00 : W.cell? ⟨w.heap.size, 0, none⟩ = some (.float .f64 a) := by subst hW; go_simp
              have q01 : W.cell? ⟨w.heap.size, 1, none⟩ = some (.float .f64 b) := by subst hW; go_simp
              have hB : Below w.heap.size w W := by subst hW; exact ((Below.refl _ _).alloc (by (try simp only [World.size_alloc]); omega) _)
              have hz : W.heap.size = w.heap.size + 1 := by subst hW; simp only [World.size_alloc]
              rw [hW]
              clear hW
              have hBW : Below W.heap.size W W := Below.refl _ _
              go_wp2_with fail
              refine (NA.out _).mono ?_
              rintro e w1 ⟨rfl, rfl⟩
              rw [d1]
              go_wp2_with fail
              refine (NB.out _).mono ?_
              rintro e w1 ⟨rfl, rfl⟩
              rw [d2]
              go_wp2_with fail
              replace hBW := hBW.drew
              first
                | go_region_held3 (fun w' => w'.cell? ⟨w.heap.size, 0, none⟩ = some (.float .f64 a) ∧ w'.cell? ⟨w.heap.size, 1, none⟩ = some (.float .f64 b) ∧ Below w.heap.size w w')
                    (first | exact ⟨q00, q01, hB.trans (hBW.mono hB.size)⟩ | exact kp2 b5 (by assumption) | exact kp2 b6 (by assumption) | exact kp2 b7 (by assumption) | exact kp2 (below_alloc _) (by assumption))
                    (first
                      | (go_at_call 32; go_at_call_of 32 (Value.float .f64 b); (fail_if_success clear b5); refine (Eb.out _).mono ?_; rintro e w5 ⟨pb, qb, rfl, hpb, hqb⟩; have b5 := hpb.below; replace hpb := hpb.back hBW; replace hqb := hqb.back hBW; replace hBW := hBW.trans (b5.mono hBW.size); replace q00 := below_cell b5 q00; replace q01 := below_cell b5 q01)
                      | (go_at_call 32; go_at_call_of 32 (Value.float .f64 a); (fail_if_success clear b6); refine (Ea.out _).mono ?_; rintro e w6 ⟨rfl, bb6⟩; have b6 := bb6; replace hBW := hBW.trans (b6.mono hBW.size); replace q00 := below_cell b6 q00; replace q01 := below_cell b6 q01; replace hpb := hpb.later b6; replace hqb := hqb.later b6)
                      | (go_at_call 31; (fail_if_success clear b7); refine (U.out _ _ _ _ _ _ _ _ _ _ _ _ _ _ _).mono ?_; rintro e w7 ⟨rfl, bb7⟩; have b7 := bb7; replace hBW := hBW.trans (b7.mono hBW.size); replace q00 := below_cell b7 q00; replace q01 := below_cell b7 q01; replace hpb := hpb.later b7; replace hqb := hqb.later b7))
                | fail
              go_wp2
              go_ret
              exact ⟨by rw [hct]; rfl, hB.trans (hBW.mono hB.size)⟩
            · skip
              have ea : faI a = -1 := if_neg i1
              have Ea := hide' (fun w' => endOf_inf a w' ha (by omega))
              rw [ea] at Ea
              have eb : faI b = 1 := if_pos (inf_hi hb (by omega) i2)
              have Eb := hide' (fun w' => endOf_inf b w' hb (by omega))
              rw [eb] at Eb
              have hct : c = true := by
                rw [hcc, decide_eq_true_iff]
                have r1 := key_rng (b := a) (by omega)
                have r2 := key_rng (b := b) (by omega)
                have k1 : fkey a = -(FI : Int) := by rw [inf_lo ha (by omega) i1]; rfl
                omega
              have U := hide' (fun w' s1 a1 n1 c1 b1 m1 d1 s2 a2 n2 c2 b2 m2 d2 => under_far 1 s1 a1 n1 c1 b1 m1 d1 (-1) s2 a2 n2 c2 b2 m2 d2 false w' (by decide) (by decide))
              clear hcc n1 n2 i1 i2 hz hT hT0 fa fb ea eb
              go_enter Try.func30, Try.ntmps30
              go_upto_region 1 with fail
              obtain ⟨W, hW⟩ : ∃ W, (w.alloc (.cells #[.float .f64 a, .float .f64 b] 30)) = W := ⟨_, rfl⟩
              have q00 : W.cell? ⟨w.heap.size, 0, none⟩ = some (.float .f64 a) := by subst hW; go_simp
              have q01 : W.cell? ⟨w.heap.size, 1, none⟩ = some (.float .f64 b) := by subst hW; go_simp
              have hB : Below w.heap.size w W := by subst hW; exact ((Below.refl _ _).alloc (by (try simp only [World.size_alloc]); omega) _)
              have hz : W.heap.size = w.heap.size + 1 := by subst hW; simp only [World.size_alloc]
              rw [hW]
              clear hW
              have hBW : Below W.heap.size W W := Below.refl _ _
              go_wp2_with fail
              refine (NA.out _).mono ?_
              rintro e w1 ⟨rfl, rfl⟩
              rw [d1]
              go_wp2_with fail
              refine (NB.out _).mono ?_
              rintro e w1 ⟨rfl, rfl⟩
              rw [d2]
              go_wp2_with fail
              replace hBW := hBW.drew
              first
                | go_region_held3 (fun w' => w'.cell? ⟨w.heap.size, 0, none⟩ = some (.float .f64 a) ∧ w'.cell? ⟨w.heap.size, 1, none⟩ = some (.float .f64 b) ∧ Below w.heap.size w w')
                    (first | exact ⟨q00, q01, hB.trans (hBW.mono hB.size)⟩ | exact kp2 b5 (by assumption) | exact kp2 b6 (by assumption) | exact kp2 b7 (by assumption) | exact kp2 (below_alloc _) (by assumption))
                    (first
                      | (go_at_call 32; go_at_call_of 32 (Value.float .f64 b); (fail_if_success clear b5); refine (Eb.out _).mono ?_; rintro e w5 ⟨rfl, bb5⟩; have b5 := bb5; replace hBW := hBW.trans (b5.mono hBW.size); replace q00 := below_cell b5 q00; replace q01 := below_cell b5 q01)
                      | (go_at_call 32; go_at_call_of 32 (Value.float .f64 a); (fail_if_success clear b6); refine (Ea.out _).mono ?_; rintro e w6 ⟨rfl, bb6⟩; have b6 := bb6; replace hBW := hBW.trans (b6.mono hBW.size); replace q00 := below_cell b6 q00; replace q01 := below_cell b6 q01)
                      | (go_at_call 31; (fail_if_success clear b7); refine (U.out _ _ _ _ _ _ _ _ _ _ _ _ _ _ _).mono ?_; rintro e w7 ⟨rfl, bb7⟩; have b7 := bb7; replace hBW := hBW.trans (b7.mono hBW.size); replace q00 := below_cell b7 q00; replace q01 := below_cell b7 q01))
                | fail
              go_wp2
              go_ret
              exact ⟨by rw [hct]; rfl, hB.trans (hBW.mono hB.size)⟩
end Go.Proofs.Yticdpbkbnflgbaa
