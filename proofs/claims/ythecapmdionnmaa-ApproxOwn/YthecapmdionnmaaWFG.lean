/-
  Spans: Around of both, sameSpan, the program's Valid and In.
-/
import Derived.Test.YthecapmdionnmaaWFS
import Derived.Test.YthecapmdionnmaaWFO
namespace Go.Proofs.Ythecapmdionnmaa
open Go.RowKit
set_option linter.unusedVariables false

theorem store_float (a : Addr) (k : FloatKind) (b : Nat) (m : Mode) (w : World) : (store a (.float k b) m).run Try.prog w = stored Try.prog w a (.float k b) m := run_store Try.prog w a _ m rfl
set_option maxHeartbeats 4000000 in
set_option maxRecDepth 100000 in
theorem around_is (s0 : Bool) (a0 : Option Addr) (n0 c0 X0 : Nat) (b0 : Option Addr) (m0 d0 Y0 : Nat) (z T : Nat) (w : World) (hc0 : n0 ≤ c0) (hm0 : n0 ≤ 35184372087808) (hS0 : Seg w a0 X0 n0) (hd0 : m0 ≤ d0) (hk0 : m0 ≤ 35184372087808) (hT0 : Seg w b0 Y0 m0) (hz : z = 1074) (hT : T = 2 ^ z) :
    Calls Try.prog 6 #[Value.agg #[Value.bool s0, Value.slice a0 n0 c0, Value.slice b0 m0 d0]] w fun e w' => ∃ k, e = .returned (.agg #[.float .f64 (downB T s0 X0 Y0 k), .float .f64 (upB T s0 X0 Y0 k)]) ∧ Cut T (rN X0 Y0) (rd Y0) k ∧ Below w.heap.size w w' := by
  have HD := hide' (fun w' k1 k2 => down_is s0 a0 n0 c0 X0 b0 m0 d0 Y0 z T w' hc0 hm0 k1 hd0 hk0 k2 hz hT)
  have HU := hide' (fun w' k1 k2 => up_is s0 a0 n0 c0 X0 b0 m0 d0 Y0 z T w' hc0 hm0 k1 hd0 hk0 k2 hz hT)
  clear hz hT
  have hsf := store_float
  go_enter Try.func6, Try.ntmps6
  go_wp2_with fail
  obtain ⟨W, hW⟩ : ∃ W, ((w.alloc (.cells #[.bool s0, .slice a0 n0 c0, .slice b0 m0 d0] 27)).alloc (.cells #[.float .f64 0, .float .f64 0] 33)) = W := ⟨_, rfl⟩
  have q00 : W.cell? ⟨w.heap.size, 0, none⟩ = some (.bool s0) := by subst hW; go_simp
  have q01 : W.cell? ⟨w.heap.size, 1, none⟩ = some (.slice a0 n0 c0) := by subst hW; go_simp
  have q02 : W.cell? ⟨w.heap.size, 2, none⟩ = some (.slice b0 m0 d0) := by subst hW; go_simp
  have r00 : W.cell? ⟨w.heap.size + 1, 0, none⟩ = some (.float .f64 0) := by subst hW; go_simp
  have r01 : W.cell? ⟨w.heap.size + 1, 1, none⟩ = some (.float .f64 0) := by subst hW; go_simp
  have hB : Below w.heap.size w W := by subst hW; exact (((Below.refl _ _).alloc (by (try simp only [World.size_alloc]); omega) _).alloc (by (try simp only [World.size_alloc]); omega) _)
  have hR0 : Row W (w.heap.size + 1) := by
    have := row_new ((w.alloc (.cells #[.bool s0, .slice a0 n0 c0, .slice b0 m0 d0] 27))) #[.float .f64 0, .float .f64 0] 33
    try simp only [World.size_alloc] at this
    subst hW; exact this
  have hz : W.heap.size = w.heap.size + 1 + 1 := by subst hW; simp only [World.size_alloc]
  rw [hW]
  clear hW
  have hBW : Below W.heap.size W W := Below.refl _ _
  replace hBW := hBW.drew
  first
    | go_region_held3 (fun w' => w'.cell? ⟨w.heap.size, 0, none⟩ = some (.bool s0) ∧ w'.cell? ⟨w.heap.size, 1, none⟩ = some (.slice a0 n0 c0) ∧ w'.cell? ⟨w.heap.size, 2, none⟩ = some (.slice b0 m0 d0) ∧ Below w.heap.size w w')
        (first | exact ⟨q00, q01, q02, hB.trans (hBW.mono hB.size)⟩ | exact kp3 b1 (by assumption) | exact kp3 b2 (by assumption) | exact kp3 (below_alloc _) (by assumption) | exact kp3 (below_alloc _) ⟨q00, q01, q02, hB.trans (hBW.mono hB.size)⟩ | exact kpT3_2 (by assumption) (by omega) (by omega) (by omega) (by omega))
        (first
          | (go_at_call 18; (fail_if_success clear b1); refine (HD.out _ (sb hS0 hB hBW) (sb hT0 hB hBW)).mono ?_; rintro e w1 ⟨k, rfl, hC, bb1⟩; have b1 := bb1; replace hBW := hBW.trans (b1.mono hBW.size); replace q00 := below_cell b1 q00; replace q01 := below_cell b1 q01; replace q02 := below_cell b1 q02; replace r00 := below_cell b1 r00; replace r01 := below_cell b1 r01; replace hR0 := below_row b1 hR0)
          | (go_at_call 19; (fail_if_success clear b2); refine (HU.out _ (sb hS0 hB hBW) (sb hT0 hB hBW)).mono ?_; rintro e w2 ⟨k2, rfl, hC2, bb2⟩; have b2 := bb2; replace hBW := hBW.trans (b2.mono hBW.size); replace q00 := below_cell b2 q00; replace q01 := below_cell b2 q01; replace q02 := below_cell b2 q02; replace r00 := below_cell b2 r00; replace r01 := below_cell b2 r01; replace hR0 := below_row b2 hR0; have fz := fun o => hR0.frozen o))
    | fail
  obtain rfl := hC.uniq hC2
  have fz0 := fun o => hR0.frozen o
  go_wp2
  all_goals refine bodyPost_ret (v := .agg #[.float .f64 (downB T s0 X0 Y0 k), .float .f64 (upB T s0 X0 Y0 k)]) (by rw [results_cell rfl]; go_simp) rfl ?_
  all_goals exact ⟨k, rfl, hC, ((bset (bset (hB.trans (hBW.mono hB.size)) (by omega)) (by omega)))⟩
set_option maxHeartbeats 4000000 in
set_option maxRecDepth 100000 in
theorem sameSpan_self (a b : Nat) (w : World) :
    Calls Try.prog 10 #[Value.agg #[Value.float .f64 a, Value.float .f64 b], Value.agg #[Value.float .f64 a, Value.float .f64 b]] w fun e w' => e = .returned (.bool true) ∧ Below w.heap.size w w' := by
  go_enter Try.func10, Try.ntmps10
  go_wp2_with fail
  obtain ⟨W, hW⟩ : ∃ W, ((w.alloc (.cells #[.float .f64 a, .float .f64 b] 33)).alloc (.cells #[.float .f64 a, .float .f64 b] 33)) = W := ⟨_, rfl⟩
  have q00 : W.cell? ⟨w.heap.size, 0, none⟩ = some (.float .f64 a) := by subst hW; go_simp
  have q01 : W.cell? ⟨w.heap.size, 1, none⟩ = some (.float .f64 b) := by subst hW; go_simp
  have q10 : W.cell? ⟨w.heap.size + 1, 0, none⟩ = some (.float .f64 a) := by subst hW; go_simp
  have q11 : W.cell? ⟨w.heap.size + 1, 1, none⟩ = some (.float .f64 b) := by subst hW; go_simp
  have hB : Below w.heap.size w W := by subst hW; exact (((Below.refl _ _).alloc (by (try simp only [World.size_alloc]); omega) _).alloc (by (try simp only [World.size_alloc]); omega) _)
  have hz : W.heap.size = w.heap.size + 1 + 1 := by subst hW; simp only [World.size_alloc]
  rw [hW]
  clear hW
  have hBW : Below W.heap.size W W := Below.refl _ _
  refine (fsame_self _ _).mono ?_
  rintro e w5 ⟨rfl, b5⟩
  replace hBW := hBW.trans (b5.mono hBW.size)
  replace q00 := below_cell b5 q00
  replace q01 := below_cell b5 q01
  replace q10 := below_cell b5 q10
  replace q11 := below_cell b5 q11
  go_wp2_with fail
  refine (fsame_self _ _).mono ?_
  rintro e w6 ⟨rfl, b6⟩
  replace hBW := hBW.trans (b6.mono hBW.size)
  replace q00 := below_cell b6 q00
  replace q01 := below_cell b6 q01
  replace q10 := below_cell b6 q10
  replace q11 := below_cell b6 q11
  go_wp2
  go_ret
  exact ⟨rfl, hB.trans (hBW.mono hB.size)⟩
theorem neg_run' {b : Nat} (h : b < 18446744073709551616) (w : World) : (Op.unary UnOp.neg (Value.float FloatKind.f64 b)).run Try.prog w = .ok (.float .f64 (flp b)) w := by
  rw [← neg_float h]; rfl
theorem inf_dn (b : Nat) (w : World) (hb : b < 18446744073709551616) :
    Calls Try.prog 37 #[.float .f64 b, .int .i64 (-1)] w fun e w' => e = .returned (.bool (decide (b = SB + FI))) ∧ w = w' := by
  have hf := neg_run' hb
  have h : (FloatKind.f64.format.order (flp b) 9218868437227405311 == some .gt) = decide (b = SB + FI) := by
    refine (f_inf (flp_lt hb)).trans ?_
    rw [decide_eq_decide]
    unfold flp
    rw [FIv, SBv]
    split <;> omega
  go_enter Try.func37, Try.ntmps37
  go_wp2
  go_ret
  exact ⟨rfl, rfl⟩
/-- may the span be? -/
def vaB (a b : Nat) : Bool := decide (a % SB ≤ FI ∧ b % SB ≤ FI ∧ fkey a ≤ fkey b ∧ a ≠ FI ∧ b ≠ SB + FI)
theorem le_no {b c : Nat} (h : ¬ (b % SB ≤ FI ∧ c % SB ≤ FI ∧ fkey b ≤ fkey c)) : (FloatKind.f64.format.order b c == some .lt || FloatKind.f64.format.order b c == some .eq) = false := by
  by_cases hb : b % SB ≤ FI
  · by_cases hc : c % SB ≤ FI
    · have e : FloatKind.f64.format.order b c = some (compare (fkey b) (fkey c)) := order_eq hb hc
      rw [e, fcmp_gt (by have := h; omega)]; rfl
    · have e : FloatKind.f64.format.order b c = none := order_nan_r b (by omega)
      rw [e]; rfl
  · have e : FloatKind.f64.format.order b c = none := order_nan_l c (by omega)
    rw [e]; rfl
set_option maxHeartbeats 4000000 in
set_option maxRecDepth 100000 in
theorem Valid_is (a b : Nat) (c : Bool) (w : World) (ha : a < 18446744073709551616) (hb : b < 18446744073709551616) (hc : vaB a b = c) :
    Calls Try.prog 20 #[Value.agg #[Value.float .f64 a, Value.float .f64 b]] w fun e w' => e = .returned (.bool c) ∧ Below w.heap.size w w' := by
  have HA := hide' (fun w' => inf_up a w' ha)
  have HB := hide' (fun w' => inf_dn b w' hb)
  unfold vaB at hc
  by_cases h1 : a % SB ≤ FI ∧ b % SB ≤ FI ∧ fkey a ≤ fkey b
  · have hle := le_run h1.1 h1.2.1 h1.2.2
    by_cases h2 : a = FI
    · have d2 : decide (a = FI) = true := decide_eq_true h2
      obtain rfl : c = false := by rw [← hc]; exact decide_eq_false (fun h => h.2.2.2.1 h2)
      clear h1 h2 hc
      go_enter Try.func20, Try.ntmps20
      go_upto_region 1 with fail
      obtain ⟨W, hW⟩ : ∃ W, (w.alloc (.cells #[.float .f64 a, .float .f64 b] 33)) = W := ⟨_, rfl⟩
      have q00 : W.cell? ⟨w.heap.size, 0, none⟩ = some (.float .f64 a) := by subst hW; go_simp
      have q01 : W.cell? ⟨w.heap.size, 1, none⟩ = some (.float .f64 b) := by subst hW; go_simp
      have hB : Below w.heap.size w W := by subst hW; exact ((Below.refl _ _).alloc (by (try simp only [World.size_alloc]); omega) _)
      have hz : W.heap.size = w.heap.size + 1 := by subst hW; simp only [World.size_alloc]
      rw [hW]
      clear hW
      have hBW : Below W.heap.size W W := Below.refl _ _
      go_wp2_with fail
      refine (HA.out _).mono ?_
      rintro e w1 ⟨rfl, rfl⟩
      rw [d2]
      go_wp2
      go_ret
      exact ⟨rfl, hB⟩
    · have d2 : decide (a = FI) = false := decide_eq_false h2
      by_cases h3 : b = SB + FI
      · have d3 : decide (b = SB + FI) = true := decide_eq_true h3
        obtain rfl : c = false := by rw [← hc]; exact decide_eq_false (fun h => h.2.2.2.2 h3)
        clear h1 h2 h3 hc
        go_enter Try.func20, Try.ntmps20
        go_upto_region 1 with fail
        obtain ⟨W, hW⟩ : ∃ W, (w.alloc (.cells #[.float .f64 a, .float .f64 b] 33)) = W := ⟨_, rfl⟩
        have q00 : W.cell? ⟨w.heap.size, 0, none⟩ = some (.float .f64 a) := by subst hW; go_simp
        have q01 : W.cell? ⟨w.heap.size, 1, none⟩ = some (.float .f64 b) := by subst hW; go_simp
        have hB : Below w.heap.size w W := by subst hW; exact ((Below.refl _ _).alloc (by (try simp only [World.size_alloc]); omega) _)
        have hz : W.heap.size = w.heap.size + 1 := by subst hW; simp only [World.size_alloc]
        rw [hW]
        clear hW
        have hBW : Below W.heap.size W W := Below.refl _ _
        go_wp2_with fail
        refine (HA.out _).mono ?_
        rintro e w1 ⟨rfl, rfl⟩
        rw [d2]
        go_wp2_with fail
        refine (HB.out _).mono ?_
        rintro e w1 ⟨rfl, rfl⟩
        rw [d3]
        go_wp2
        go_ret
        exact ⟨rfl, hB⟩
      · have d3 : decide (b = SB + FI) = false := decide_eq_false h3
        obtain rfl : c = true := by rw [← hc]; exact decide_eq_true ⟨h1.1, h1.2.1, h1.2.2, h2, h3⟩
        clear h1 h2 h3 hc
        go_enter Try.func20, Try.ntmps20
        go_upto_region 1 with fail
        obtain ⟨W, hW⟩ : ∃ W, (w.alloc (.cells #[.float .f64 a, .float .f64 b] 33)) = W := ⟨_, rfl⟩
        have q00 : W.cell? ⟨w.heap.size, 0, none⟩ = some (.float .f64 a) := by subst hW; go_simp
        have q01 : W.cell? ⟨w.heap.size, 1, none⟩ = some (.float .f64 b) := by subst hW; go_simp
        have hB : Below w.heap.size w W := by subst hW; exact ((Below.refl _ _).alloc (by (try simp only [World.size_alloc]); omega) _)
        have hz : W.heap.size = w.heap.size + 1 := by subst hW; simp only [World.size_alloc]
        rw [hW]
        clear hW
        have hBW : Below W.heap.size W W := Below.refl _ _
        go_wp2_with fail
        refine (HA.out _).mono ?_
        rintro e w1 ⟨rfl, rfl⟩
        rw [d2]
        go_wp2_with fail
        refine (HB.out _).mono ?_
        rintro e w1 ⟨rfl, rfl⟩
        rw [d3]
        go_wp2
        go_ret
        exact ⟨rfl, hB⟩
  · have hle := le_no h1
    obtain rfl : c = false := by rw [← hc]; exact decide_eq_false (fun h => h1 ⟨h.1, h.2.1, h.2.2.1⟩)
    clear h1 hc
    go_enter Try.func20, Try.ntmps20
    go_upto_region 1 with fail
    obtain ⟨W, hW⟩ : ∃ W, (w.alloc (.cells #[.float .f64 a, .float .f64 b] 33)) = W := ⟨_, rfl⟩
    have q00 : W.cell? ⟨w.heap.size, 0, none⟩ = some (.float .f64 a) := by subst hW; go_simp
    have q01 : W.cell? ⟨w.heap.size, 1, none⟩ = some (.float .f64 b) := by subst hW; go_simp
    have hB : Below w.heap.size w W := by subst hW; exact ((Below.refl _ _).alloc (by (try simp only [World.size_alloc]); omega) _)
    have hz : W.heap.size = w.heap.size + 1 := by subst hW; simp only [World.size_alloc]
    rw [hW]
    clear hW
    have hBW : Below W.heap.size W W := Below.refl _ _
    go_wp2
    go_ret
    exact ⟨rfl, hB⟩
end Go.Proofs.Ythecapmdionnmaa
