/-
  The program's Nearest, Down, Up.
-/
import Derived.Test.YthecapmdionnmaaWF3
import Derived.Deep.Cut
namespace Go.Proofs.Ythecapmdionnmaa
open Go.RowKit
set_option linter.unusedVariables false

/-- the bits with a sign -/
def fB (s : Bool) (k : Nat) : Nat := if s then SB + k else k
theorem fB_lt {s : Bool} {k : Nat} (h : k ≤ FI) : fB s k < 18446744073709551616 := by
  have := FIv; have := SBv
  unfold fB; split <;> omega
theorem fB_mod {s : Bool} {k : Nat} (h : k ≤ FI) : fB s k % SB = k := by
  rw [FIv] at h
  unfold fB; rw [SBv]; split <;> omega
theorem fB_neg {s : Bool} {k : Nat} (h : k ≤ FI) : fneg (fB s k) = s := by
  have := FIv; have := SBv
  rw [fneg_iff (fB_lt h)]
  unfold fB
  cases s
  · rw [decide_eq_false_iff_not]; simp; omega
  · rw [decide_eq_true_iff]; simp
/-- the three roundings' bits -/
def nearB (T : Nat) (s : Bool) (X Y k : Nat) : Nat := fB (decide (rn s X Y < 0)) (if nup T (rN X Y) (rd Y) k then k + 1 else k)
def downB (T : Nat) (s : Bool) (X Y k : Nat) : Nat := fB (decide (rn s X Y < 0)) (if rst T (rN X Y) (rd Y) k ≠ 0 ∧ rn s X Y < 0 then k + 1 else k)
def upB (T : Nat) (s : Bool) (X Y k : Nat) : Nat := fB (decide (rn s X Y < 0)) (if rst T (rN X Y) (rd Y) k ≠ 0 ∧ ¬ rn s X Y < 0 then k + 1 else k)
theorem odd_of (k : Nat) (h : k < 18446744073709551616) : (bits .and .u64 (k : Int) 1 == 1) = decide (k % 2 = 1) := by
  have := u64_and_nat k 1 h (by omega)
  rw [show (1 : Nat) = 2 ^ 1 - 1 by decide, Nat.and_two_pow_sub_one_eq_mod] at this
  have e : bits .and .u64 (k : Int) 1 = ((k % 2 : Nat) : Int) := this
  rw [e]
  by_cases h2 : k % 2 = 1
  · rw [decide_eq_true h2, h2]; rfl
  · rw [decide_eq_false h2, beq_eq_false_iff_ne]; omega

set_option maxHeartbeats 1000000 in
set_option maxRecDepth 30000 in
theorem float_is (s f : Bool) (k Z : Nat) (r : Int) (w : World) (hk : k < FI) (hZ : fB s (if f then k + 1 else k) = Z) :
    Calls Try.prog 17 #[.agg #[.bool s, .int .u64 (k : Int), .int .i64 r], .bool f] w fun e w' => e = .returned (.float .f64 Z) ∧ Below w.heap.size w w' := by
  have hkk : k < 9218868437227405312 := hk
  have hs : SB = 9223372036854775808 := rfl
  clear hk
  cases s <;> cases f
  · subst hZ
    have h3 : ∀ w, (callFunc 36 #[.int .u64 (k : Int)]).run Try.prog w = .ok (.value (.float .f64 k)) w := fun w => from_run k w
    have e : fB false (if false = true then k + 1 else k) = k := rfl
    rw [e]
    clear e hs
    go_enter Try.func17, Try.ntmps17
    go_upto_region 1 with fail
    obtain ⟨W, hW⟩ : ∃ W, (w.alloc (.cells #[.bool false, .int .u64 (k : Int), .int .i64 r] 52)) = W := ⟨_, rfl⟩
    have q00 : W.cell? ⟨w.heap.size, 0, none⟩ = some (.bool false) := by subst hW; go_simp
    have q01 : W.cell? ⟨w.heap.size, 1, none⟩ = some (.int .u64 (k : Int)) := by subst hW; go_simp
    have q02 : W.cell? ⟨w.heap.size, 2, none⟩ = some (.int .i64 r) := by subst hW; go_simp
    have hB : Below w.heap.size w W := by subst hW; exact ((Below.refl _ _).alloc (by (try simp only [World.size_alloc]); omega) _)
    have hz : W.heap.size = w.heap.size + 1 := by subst hW; simp only [World.size_alloc]
    rw [hW]
    clear hW
    have hBW : Below W.heap.size W W := Below.refl _ _
    go_wp2
    go_ret
    exact ⟨rfl, hB⟩
  · subst hZ
    have h3 : ∀ w, (callFunc 36 #[.int .u64 ((k : Int) + 1)]).run Try.prog w = .ok (.value (.float .f64 (k + 1))) w := fun w => from_run (k + 1) w
    have e : fB false (if true = true then k + 1 else k) = (k + 1) := rfl
    rw [e]
    clear e hs
    go_enter Try.func17, Try.ntmps17
    go_upto_region 1 with fail
    obtain ⟨W, hW⟩ : ∃ W, (w.alloc (.cells #[.bool false, .int .u64 (k : Int), .int .i64 r] 52)) = W := ⟨_, rfl⟩
    have q00 : W.cell? ⟨w.heap.size, 0, none⟩ = some (.bool false) := by subst hW; go_simp
    have q01 : W.cell? ⟨w.heap.size, 1, none⟩ = some (.int .u64 (k : Int)) := by subst hW; go_simp
    have q02 : W.cell? ⟨w.heap.size, 2, none⟩ = some (.int .i64 r) := by subst hW; go_simp
    have hB : Below w.heap.size w W := by subst hW; exact ((Below.refl _ _).alloc (by (try simp only [World.size_alloc]); omega) _)
    have hz : W.heap.size = w.heap.size + 1 := by subst hW; simp only [World.size_alloc]
    rw [hW]
    clear hW
    have hBW : Below W.heap.size W W := Below.refl _ _
    go_wp2
    go_ret
    exact ⟨rfl, hB⟩
  · subst hZ
    have ho : bits .or .u64 (k : Int) 9223372036854775808 = ((SB + k : Nat) : Int) := or_sign (b := k) (by omega)
    have h3 := from_run (SB + k)
    have e : fB true (if false = true then k + 1 else k) = SB + k := rfl
    rw [e]
    clear e hs
    generalize SB + k = y at ho h3 ⊢
    go_enter Try.func17, Try.ntmps17
    go_upto_region 1 with fail
    obtain ⟨W, hW⟩ : ∃ W, (w.alloc (.cells #[.bool true, .int .u64 (k : Int), .int .i64 r] 52)) = W := ⟨_, rfl⟩
    have q00 : W.cell? ⟨w.heap.size, 0, none⟩ = some (.bool true) := by subst hW; go_simp
    have q01 : W.cell? ⟨w.heap.size, 1, none⟩ = some (.int .u64 (k : Int)) := by subst hW; go_simp
    have q02 : W.cell? ⟨w.heap.size, 2, none⟩ = some (.int .i64 r) := by subst hW; go_simp
    have hB : Below w.heap.size w W := by subst hW; exact ((Below.refl _ _).alloc (by (try simp only [World.size_alloc]); omega) _)
    have hz : W.heap.size = w.heap.size + 1 := by subst hW; simp only [World.size_alloc]
    rw [hW]
    clear hW
    have hBW : Below W.heap.size W W := Below.refl _ _
    go_wp2
    go_ret
    exact ⟨rfl, hB⟩
  · subst hZ
    have ho : bits .or .u64 ((k : Int) + 1) 9223372036854775808 = ((SB + (k + 1) : Nat) : Int) := or_sign (b := (k + 1)) (by omega)
    have h3 := from_run (SB + (k + 1))
    have e : fB true (if true = true then k + 1 else k) = SB + (k + 1) := rfl
    rw [e]
    clear e hs
    generalize SB + (k + 1) = y at ho h3 ⊢
    go_enter Try.func17, Try.ntmps17
    go_upto_region 1 with fail
    obtain ⟨W, hW⟩ : ∃ W, (w.alloc (.cells #[.bool true, .int .u64 (k : Int), .int .i64 r] 52)) = W := ⟨_, rfl⟩
    have q00 : W.cell? ⟨w.heap.size, 0, none⟩ = some (.bool true) := by subst hW; go_simp
    have q01 : W.cell? ⟨w.heap.size, 1, none⟩ = some (.int .u64 (k : Int)) := by subst hW; go_simp
    have q02 : W.cell? ⟨w.heap.size, 2, none⟩ = some (.int .i64 r) := by subst hW; go_simp
    have hB : Below w.heap.size w W := by subst hW; exact ((Below.refl _ _).alloc (by (try simp only [World.size_alloc]); omega) _)
    have hz : W.heap.size = w.heap.size + 1 := by subst hW; simp only [World.size_alloc]
    rw [hW]
    clear hW
    have hBW : Below W.heap.size W W := Below.refl _ _
    go_wp2
    go_ret
    exact ⟨rfl, hB⟩
set_option maxHeartbeats 4000000 in
set_option maxRecDepth 100000 in
theorem near_is (s0 : Bool) (a0 : Option Addr) (n0 c0 X0 : Nat) (b0 : Option Addr) (m0 d0 Y0 : Nat) (z T : Nat) (w : World) (hc0 : n0 ≤ c0) (hm0 : n0 ≤ 35184372087808) (hS0 : Seg w a0 X0 n0) (hd0 : m0 ≤ d0) (hk0 : m0 ≤ 35184372087808) (hT0 : Seg w b0 Y0 m0) (hz : z = 1074) (hT : T = 2 ^ z) :
    Calls Try.prog 5 #[Value.agg #[Value.bool s0, Value.slice a0 n0 c0, Value.slice b0 m0 d0]] w fun e w' => ∃ k, e = .returned (.float .f64 (nearB T s0 X0 Y0 k)) ∧ Cut T (rN X0 Y0) (rd Y0) k ∧ Below w.heap.size w w' := by
  have HC := hide' (fun w' k1 k2 => cutOff_is s0 a0 n0 c0 X0 b0 m0 d0 Y0 z T w' hc0 hm0 k1 hd0 hk0 k2 hz hT)
  clear hz hT
  unfold nearB
  unfold nup
  go_enter Try.func5, Try.ntmps5
  go_wp2_with fail
  obtain ⟨W, hW⟩ : ∃ W, (w.alloc (.cells #[.bool s0, .slice a0 n0 c0, .slice b0 m0 d0] 27)) = W := ⟨_, rfl⟩
  have q00 : W.cell? ⟨w.heap.size, 0, none⟩ = some (.bool s0) := by subst hW; go_simp
  have q01 : W.cell? ⟨w.heap.size, 1, none⟩ = some (.slice a0 n0 c0) := by subst hW; go_simp
  have q02 : W.cell? ⟨w.heap.size, 2, none⟩ = some (.slice b0 m0 d0) := by subst hW; go_simp
  have hB : Below w.heap.size w W := by subst hW; exact ((Below.refl _ _).alloc (by (try simp only [World.size_alloc]); omega) _)
  have hz : W.heap.size = w.heap.size + 1 := by subst hW; simp only [World.size_alloc]
  rw [hW]
  clear hW
  have hBW : Below W.heap.size W W := Below.refl _ _
  go_wp2_with fail
  refine (HC.out _ (sb hS0 hB hBW) (sb hT0 hB hBW)).mono ?_
  rintro e w1 ⟨k, rfl, hCut, bb1⟩
  have b1 := bb1
  replace hBW := hBW.trans (b1.mono hBW.size)
  replace q00 := below_cell b1 q00
  replace q01 := below_cell b1 q01
  replace q02 := below_cell b1 q02
  have hkF := hCut.1
  have hk6 : k < 18446744073709551616 := by have := FIv; omega
  have hodd := odd_of k hk6
  have HCut := hide' hCut
  clear hCut
  obtain ⟨sb, hsb⟩ : ∃ sb, decide (rn s0 X0 Y0 < 0) = sb := ⟨_, rfl⟩
  obtain ⟨r, hr⟩ : ∃ r, rst T (rN X0 Y0) (rd Y0) k = r := ⟨_, rfl⟩
  obtain ⟨od, hod⟩ : ∃ od, decide (k % 2 = 1) = od := ⟨_, rfl⟩
  rw [hod] at hodd
  rw [hsb, hr]
  obtain ⟨G, hG⟩ : ∃ G, fB sb (if decide (r = 3 ∨ r = 2 ∧ k % 2 = 1) = true then k + 1 else k) = G := ⟨_, rfl⟩
  have HA : Hid (∃ k, Ending.returned (Value.float .f64 G) = .returned (.float .f64 (fB (decide (rn s0 X0 Y0 < 0)) (if decide (rst T (rN X0 Y0) (rd Y0) k = 3 ∨ rst T (rN X0 Y0) (rd Y0) k = 2 ∧ k % 2 = 1) = true then k + 1 else k))) ∧ Cut T (rN X0 Y0) (rd Y0) k) := ⟨k, by rw [hsb, hr, hG], HCut.out⟩
  have hrg := rst_rng T (rN X0 Y0) (rd Y0) k
  rw [hr] at hrg
  by_cases h3 : r = 3
  · have e3 : (r == 3) = true := by rw [h3]; rfl
    have HF := hide' (fun w' => float_is sb true k G r w' hkF (by rw [← hG]; rw [h3]; simp))
    clear hkF hk6 hG hsb hr hrg
    clear h3
    have hsz1 := hBW.size
    have l100 : ((w1.alloc (.cells #[.bool sb, .int .u64 (k : Int), .int .i64 r] 52))).cell? ⟨w1.heap.size, 0, none⟩ = some (.bool sb) := by go_simp
    have l101 : ((w1.alloc (.cells #[.bool sb, .int .u64 (k : Int), .int .i64 r] 52))).cell? ⟨w1.heap.size, 1, none⟩ = some (.int .u64 (k : Int)) := by go_simp
    have l102 : ((w1.alloc (.cells #[.bool sb, .int .u64 (k : Int), .int .i64 r] 52))).cell? ⟨w1.heap.size, 2, none⟩ = some (.int .i64 r) := by go_simp
    have cb1 : Below w1.heap.size w1 ((w1.alloc (.cells #[.bool sb, .int .u64 (k : Int), .int .i64 r] 52))) := ((Below.refl _ _).alloc (by (try simp only [World.size_alloc]); omega) _)
    replace hBW := hBW.trans (cb1.mono hBW.size)
    replace q00 := below_cell cb1 q00
    replace q01 := below_cell cb1 q01
    replace q02 := below_cell cb1 q02
    have hL10 : Row ((w1.alloc (.cells #[.bool sb, .int .u64 (k : Int), .int .i64 r] 52))) (w1.heap.size) := by
      have := row_new (w1) #[.bool sb, .int .u64 (k : Int), .int .i64 r] 52
      try simp only [World.size_alloc] at this
      exact this
    go_wp2_with fail
    generalize (w1.alloc (.cells #[.bool sb, .int .u64 (k : Int), .int .i64 r] 52)) = w1x at q00 q01 q02 l100 l101 l102 hL10 hBW cb1 ⊢
    clear cb1
    refine (HF.out _).mono ?_
    rintro e w2 ⟨rfl, b2⟩
    replace hBW := hBW.trans (b2.mono hBW.size)
    replace q00 := below_cell b2 q00
    replace q01 := below_cell b2 q01
    replace q02 := below_cell b2 q02
    replace l100 := below_cell b2 l100
    replace l101 := below_cell b2 l101
    replace l102 := below_cell b2 l102
    replace hL10 := below_row b2 hL10
    go_wp2
    go_ret
    obtain ⟨k9, hk9, hc9⟩ := HA.out
    exact ⟨k9, hk9, hc9, hB.trans (hBW.mono hB.size)⟩
  · by_cases h2 : r = 2
    · have e3 : (r == 3) = false := by rw [beq_eq_false_iff_ne]; exact h3
      have e2 : (r == 2) = true := by rw [h2]; rfl
      have HF := hide' (fun w' => float_is sb od k G r w' hkF (by rw [← hG]; rw [h2, ← hod]; simp))
      clear hkF hk6 hG hsb hr hrg
      clear h3
      clear h2
      have hsz1 := hBW.size
      have l100 : ((w1.alloc (.cells #[.bool sb, .int .u64 (k : Int), .int .i64 r] 52))).cell? ⟨w1.heap.size, 0, none⟩ = some (.bool sb) := by go_simp
      have l101 : ((w1.alloc (.cells #[.bool sb, .int .u64 (k : Int), .int .i64 r] 52))).cell? ⟨w1.heap.size, 1, none⟩ = some (.int .u64 (k : Int)) := by go_simp
      have l102 : ((w1.alloc (.cells #[.bool sb, .int .u64 (k : Int), .int .i64 r] 52))).cell? ⟨w1.heap.size, 2, none⟩ = some (.int .i64 r) := by go_simp
      have cb1 : Below w1.heap.size w1 ((w1.alloc (.cells #[.bool sb, .int .u64 (k : Int), .int .i64 r] 52))) := ((Below.refl _ _).alloc (by (try simp only [World.size_alloc]); omega) _)
      replace hBW := hBW.trans (cb1.mono hBW.size)
      replace q00 := below_cell cb1 q00
      replace q01 := below_cell cb1 q01
      replace q02 := below_cell cb1 q02
      have hL10 : Row ((w1.alloc (.cells #[.bool sb, .int .u64 (k : Int), .int .i64 r] 52))) (w1.heap.size) := by
        have := row_new (w1) #[.bool sb, .int .u64 (k : Int), .int .i64 r] 52
        try simp only [World.size_alloc] at this
        exact this
      go_wp2_with fail
      generalize (w1.alloc (.cells #[.bool sb, .int .u64 (k : Int), .int .i64 r] 52)) = w1x at q00 q01 q02 l100 l101 l102 hL10 hBW cb1 ⊢
      clear cb1
      refine (HF.out _).mono ?_
      rintro e w2 ⟨rfl, b2⟩
      replace hBW := hBW.trans (b2.mono hBW.size)
      replace q00 := below_cell b2 q00
      replace q01 := below_cell b2 q01
      replace q02 := below_cell b2 q02
      replace l100 := below_cell b2 l100
      replace l101 := below_cell b2 l101
      replace l102 := below_cell b2 l102
      replace hL10 := below_row b2 hL10
      go_wp2
      go_ret
      obtain ⟨k9, hk9, hc9⟩ := HA.out
      exact ⟨k9, hk9, hc9, hB.trans (hBW.mono hB.size)⟩
    · have e3 : (r == 3) = false := by rw [beq_eq_false_iff_ne]; exact h3
      have e2 : (r == 2) = false := by rw [beq_eq_false_iff_ne]; exact h2
      have HF := hide' (fun w' => float_is sb false k G r w' hkF (by rw [← hG]; simp [h3, h2]))
      clear hkF hk6 hG hsb hr hrg
      clear h3
      clear h2
      have hsz1 := hBW.size
      have l100 : ((w1.alloc (.cells #[.bool sb, .int .u64 (k : Int), .int .i64 r] 52))).cell? ⟨w1.heap.size, 0, none⟩ = some (.bool sb) := by go_simp
      have l101 : ((w1.alloc (.cells #[.bool sb, .int .u64 (k : Int), .int .i64 r] 52))).cell? ⟨w1.heap.size, 1, none⟩ = some (.int .u64 (k : Int)) := by go_simp
      have l102 : ((w1.alloc (.cells #[.bool sb, .int .u64 (k : Int), .int .i64 r] 52))).cell? ⟨w1.heap.size, 2, none⟩ = some (.int .i64 r) := by go_simp
      have cb1 : Below w1.heap.size w1 ((w1.alloc (.cells #[.bool sb, .int .u64 (k : Int), .int .i64 r] 52))) := ((Below.refl _ _).alloc (by (try simp only [World.size_alloc]); omega) _)
      replace hBW := hBW.trans (cb1.mono hBW.size)
      replace q00 := below_cell cb1 q00
      replace q01 := below_cell cb1 q01
      replace q02 := below_cell cb1 q02
      have hL10 : Row ((w1.alloc (.cells #[.bool sb, .int .u64 (k : Int), .int .i64 r] 52))) (w1.heap.size) := by
        have := row_new (w1) #[.bool sb, .int .u64 (k : Int), .int .i64 r] 52
        try simp only [World.size_alloc] at this
        exact this
      go_wp2_with fail
      generalize (w1.alloc (.cells #[.bool sb, .int .u64 (k : Int), .int .i64 r] 52)) = w1x at q00 q01 q02 l100 l101 l102 hL10 hBW cb1 ⊢
      clear cb1
      refine (HF.out _).mono ?_
      rintro e w2 ⟨rfl, b2⟩
      replace hBW := hBW.trans (b2.mono hBW.size)
      replace q00 := below_cell b2 q00
      replace q01 := below_cell b2 q01
      replace q02 := below_cell b2 q02
      replace l100 := below_cell b2 l100
      replace l101 := below_cell b2 l101
      replace l102 := below_cell b2 l102
      replace hL10 := below_row b2 hL10
      go_wp2
      go_ret
      obtain ⟨k9, hk9, hc9⟩ := HA.out
      exact ⟨k9, hk9, hc9, hB.trans (hBW.mono hB.size)⟩
set_option maxHeartbeats 4000000 in
set_option maxRecDepth 100000 in
theorem down_is (s0 : Bool) (a0 : Option Addr) (n0 c0 X0 : Nat) (b0 : Option Addr) (m0 d0 Y0 : Nat) (z T : Nat) (w : World) (hc0 : n0 ≤ c0) (hm0 : n0 ≤ 35184372087808) (hS0 : Seg w a0 X0 n0) (hd0 : m0 ≤ d0) (hk0 : m0 ≤ 35184372087808) (hT0 : Seg w b0 Y0 m0) (hz : z = 1074) (hT : T = 2 ^ z) :
    Calls Try.prog 18 #[Value.agg #[Value.bool s0, Value.slice a0 n0 c0, Value.slice b0 m0 d0]] w fun e w' => ∃ k, e = .returned (.float .f64 (downB T s0 X0 Y0 k)) ∧ Cut T (rN X0 Y0) (rd Y0) k ∧ Below w.heap.size w w' := by
  have HC := hide' (fun w' k1 k2 => cutOff_is s0 a0 n0 c0 X0 b0 m0 d0 Y0 z T w' hc0 hm0 k1 hd0 hk0 k2 hz hT)
  clear hz hT
  unfold downB
  go_enter Try.func18, Try.ntmps18
  go_wp2_with fail
  obtain ⟨W, hW⟩ : ∃ W, (w.alloc (.cells #[.bool s0, .slice a0 n0 c0, .slice b0 m0 d0] 27)) = W := ⟨_, rfl⟩
  have q00 : W.cell? ⟨w.heap.size, 0, none⟩ = some (.bool s0) := by subst hW; go_simp
  have q01 : W.cell? ⟨w.heap.size, 1, none⟩ = some (.slice a0 n0 c0) := by subst hW; go_simp
  have q02 : W.cell? ⟨w.heap.size, 2, none⟩ = some (.slice b0 m0 d0) := by subst hW; go_simp
  have hB : Below w.heap.size w W := by subst hW; exact ((Below.refl _ _).alloc (by (try simp only [World.size_alloc]); omega) _)
  have hz : W.heap.size = w.heap.size + 1 := by subst hW; simp only [World.size_alloc]
  rw [hW]
  clear hW
  have hBW : Below W.heap.size W W := Below.refl _ _
  go_wp2_with fail
  refine (HC.out _ (sb hS0 hB hBW) (sb hT0 hB hBW)).mono ?_
  rintro e w1 ⟨k, rfl, hCut, bb1⟩
  have b1 := bb1
  replace hBW := hBW.trans (b1.mono hBW.size)
  replace q00 := below_cell b1 q00
  replace q01 := below_cell b1 q01
  replace q02 := below_cell b1 q02
  have hkF := hCut.1
  have HCut := hide' hCut
  clear hCut
  obtain ⟨sb, hsb⟩ : ∃ sb, decide (rn s0 X0 Y0 < 0) = sb := ⟨_, rfl⟩
  have hsn : (rn s0 X0 Y0 < 0) = (sb = true) := by rw [← hsb]; simp
  obtain ⟨r, hr⟩ : ∃ r, rst T (rN X0 Y0) (rd Y0) k = r := ⟨_, rfl⟩
  rw [hsb, hr]
  obtain ⟨G, hG⟩ : ∃ G, fB sb (if r ≠ 0 ∧ sb = true then k + 1 else k) = G := ⟨_, rfl⟩
  have HA : Hid (∃ k, Ending.returned (Value.float .f64 G) = .returned (.float .f64 (fB (decide (rn s0 X0 Y0 < 0)) (if rst T (rN X0 Y0) (rd Y0) k ≠ 0 ∧ rn s0 X0 Y0 < 0 then k + 1 else k))) ∧ Cut T (rN X0 Y0) (rd Y0) k) := ⟨k, by rw [hsb, hr]; simp only [hsn]; rw [hG], HCut.out⟩
  have hrg := rst_rng T (rN X0 Y0) (rd Y0) k
  rw [hr] at hrg
  by_cases h0 : r = 0
  · have e3 : (r != 0) = false := by rw [h0]; rfl
    have HF := hide' (fun w' => float_is sb (false) k G r w' hkF (by rw [← hG]; simp [h0]))
    clear hkF hG hsb hr hrg hsn h0
    have hsz1 := hBW.size
    have l100 : ((w1.alloc (.cells #[.bool sb, .int .u64 (k : Int), .int .i64 r] 52))).cell? ⟨w1.heap.size, 0, none⟩ = some (.bool sb) := by go_simp
    have l101 : ((w1.alloc (.cells #[.bool sb, .int .u64 (k : Int), .int .i64 r] 52))).cell? ⟨w1.heap.size, 1, none⟩ = some (.int .u64 (k : Int)) := by go_simp
    have l102 : ((w1.alloc (.cells #[.bool sb, .int .u64 (k : Int), .int .i64 r] 52))).cell? ⟨w1.heap.size, 2, none⟩ = some (.int .i64 r) := by go_simp
    have cb1 : Below w1.heap.size w1 ((w1.alloc (.cells #[.bool sb, .int .u64 (k : Int), .int .i64 r] 52))) := ((Below.refl _ _).alloc (by (try simp only [World.size_alloc]); omega) _)
    replace hBW := hBW.trans (cb1.mono hBW.size)
    replace q00 := below_cell cb1 q00
    replace q01 := below_cell cb1 q01
    replace q02 := below_cell cb1 q02
    have hL10 : Row ((w1.alloc (.cells #[.bool sb, .int .u64 (k : Int), .int .i64 r] 52))) (w1.heap.size) := by
      have := row_new (w1) #[.bool sb, .int .u64 (k : Int), .int .i64 r] 52
      try simp only [World.size_alloc] at this
      exact this
    go_wp2_with fail
    generalize (w1.alloc (.cells #[.bool sb, .int .u64 (k : Int), .int .i64 r] 52)) = w1x at q00 q01 q02 l100 l101 l102 hL10 hBW cb1 ⊢
    clear cb1
    refine (HF.out _).mono ?_
    rintro e w2 ⟨rfl, b2⟩
    replace hBW := hBW.trans (b2.mono hBW.size)
    replace q00 := below_cell b2 q00
    replace q01 := below_cell b2 q01
    replace q02 := below_cell b2 q02
    replace l100 := below_cell b2 l100
    replace l101 := below_cell b2 l101
    replace l102 := below_cell b2 l102
    replace hL10 := below_row b2 hL10
    go_wp2
    go_ret
    obtain ⟨k9, hk9, hc9⟩ := HA.out
    exact ⟨k9, hk9, hc9, hB.trans (hBW.mono hB.size)⟩
  · have e3 : (r != 0) = true := by rw [bne_iff_ne]; exact h0
    have HF := hide' (fun w' => float_is sb (sb) k G r w' hkF (by rw [← hG]; simp [h0]))
    clear hkF hG hsb hr hrg hsn h0
    have hsz1 := hBW.size
    have l100 : ((w1.alloc (.cells #[.bool sb, .int .u64 (k : Int), .int .i64 r] 52))).cell? ⟨w1.heap.size, 0, none⟩ = some (.bool sb) := by go_simp
    have l101 : ((w1.alloc (.cells #[.bool sb, .int .u64 (k : Int), .int .i64 r] 52))).cell? ⟨w1.heap.size, 1, none⟩ = some (.int .u64 (k : Int)) := by go_simp
    have l102 : ((w1.alloc (.cells #[.bool sb, .int .u64 (k : Int), .int .i64 r] 52))).cell? ⟨w1.heap.size, 2, none⟩ = some (.int .i64 r) := by go_simp
    have cb1 : Below w1.heap.size w1 ((w1.alloc (.cells #[.bool sb, .int .u64 (k : Int), .int .i64 r] 52))) := ((Below.refl _ _).alloc (by (try simp only [World.size_alloc]); omega) _)
    replace hBW := hBW.trans (cb1.mono hBW.size)
    replace q00 := below_cell cb1 q00
    replace q01 := below_cell cb1 q01
    replace q02 := below_cell cb1 q02
    have hL10 : Row ((w1.alloc (.cells #[.bool sb, .int .u64 (k : Int), .int .i64 r] 52))) (w1.heap.size) := by
      have := row_new (w1) #[.bool sb, .int .u64 (k : Int), .int .i64 r] 52
      try simp only [World.size_alloc] at this
      exact this
    go_wp2_with fail
    generalize (w1.alloc (.cells #[.bool sb, .int .u64 (k : Int), .int .i64 r] 52)) = w1x at q00 q01 q02 l100 l101 l102 hL10 hBW cb1 ⊢
    clear cb1
    refine (HF.out _).mono ?_
    rintro e w2 ⟨rfl, b2⟩
    replace hBW := hBW.trans (b2.mono hBW.size)
    replace q00 := below_cell b2 q00
    replace q01 := below_cell b2 q01
    replace q02 := below_cell b2 q02
    replace l100 := below_cell b2 l100
    replace l101 := below_cell b2 l101
    replace l102 := below_cell b2 l102
    replace hL10 := below_row b2 hL10
    go_wp2
    go_ret
    obtain ⟨k9, hk9, hc9⟩ := HA.out
    exact ⟨k9, hk9, hc9, hB.trans (hBW.mono hB.size)⟩
set_option maxHeartbeats 4000000 in
set_option maxRecDepth 100000 in
theorem up_is (s0 : Bool) (a0 : Option Addr) (n0 c0 X0 : Nat) (b0 : Option Addr) (m0 d0 Y0 : Nat) (z T : Nat) (w : World) (hc0 : n0 ≤ c0) (hm0 : n0 ≤ 35184372087808) (hS0 : Seg w a0 X0 n0) (hd0 : m0 ≤ d0) (hk0 : m0 ≤ 35184372087808) (hT0 : Seg w b0 Y0 m0) (hz : z = 1074) (hT : T = 2 ^ z) :
    Calls Try.prog 19 #[Value.agg #[Value.bool s0, Value.slice a0 n0 c0, Value.slice b0 m0 d0]] w fun e w' => ∃ k, e = .returned (.float .f64 (upB T s0 X0 Y0 k)) ∧ Cut T (rN X0 Y0) (rd Y0) k ∧ Below w.heap.size w w' := by
  have HC := hide' (fun w' k1 k2 => cutOff_is s0 a0 n0 c0 X0 b0 m0 d0 Y0 z T w' hc0 hm0 k1 hd0 hk0 k2 hz hT)
  clear hz hT
  unfold upB
  go_enter Try.func19, Try.ntmps19
  go_wp2_with fail
  obtain ⟨W, hW⟩ : ∃ W, (w.alloc (.cells #[.bool s0, .slice a0 n0 c0, .slice b0 m0 d0] 27)) = W := ⟨_, rfl⟩
  have q00 : W.cell? ⟨w.heap.size, 0, none⟩ = some (.bool s0) := by subst hW; go_simp
  have q01 : W.cell? ⟨w.heap.size, 1, none⟩ = some (.slice a0 n0 c0) := by subst hW; go_simp
  have q02 : W.cell? ⟨w.heap.size, 2, none⟩ = some (.slice b0 m0 d0) := by subst hW; go_simp
  have hB : Below w.heap.size w W := by subst hW; exact ((Below.refl _ _).alloc (by (try simp only [World.size_alloc]); omega) _)
  have hz : W.heap.size = w.heap.size + 1 := by subst hW; simp only [World.size_alloc]
  rw [hW]
  clear hW
  have hBW : Below W.heap.size W W := Below.refl _ _
  go_wp2_with fail
  refine (HC.out _ (sb hS0 hB hBW) (sb hT0 hB hBW)).mono ?_
  rintro e w1 ⟨k, rfl, hCut, bb1⟩
  have b1 := bb1
  replace hBW := hBW.trans (b1.mono hBW.size)
  replace q00 := below_cell b1 q00
  replace q01 := below_cell b1 q01
  replace q02 := below_cell b1 q02
  have hkF := hCut.1
  have HCut := hide' hCut
  clear hCut
  obtain ⟨sb, hsb⟩ : ∃ sb, decide (rn s0 X0 Y0 < 0) = sb := ⟨_, rfl⟩
  have hsn : (rn s0 X0 Y0 < 0) = (sb = true) := by rw [← hsb]; simp
  obtain ⟨r, hr⟩ : ∃ r, rst T (rN X0 Y0) (rd Y0) k = r := ⟨_, rfl⟩
  rw [hsb, hr]
  obtain ⟨G, hG⟩ : ∃ G, fB sb (if r ≠ 0 ∧ ¬ sb = true then k + 1 else k) = G := ⟨_, rfl⟩
  have HA : Hid (∃ k, Ending.returned (Value.float .f64 G) = .returned (.float .f64 (fB (decide (rn s0 X0 Y0 < 0)) (if rst T (rN X0 Y0) (rd Y0) k ≠ 0 ∧ ¬ rn s0 X0 Y0 < 0 then k + 1 else k))) ∧ Cut T (rN X0 Y0) (rd Y0) k) := ⟨k, by rw [hsb, hr]; simp only [hsn]; rw [hG], HCut.out⟩
  have hrg := rst_rng T (rN X0 Y0) (rd Y0) k
  rw [hr] at hrg
  by_cases h0 : r = 0
  · have e3 : (r != 0) = false := by rw [h0]; rfl
    have HF := hide' (fun w' => float_is sb (false) k G r w' hkF (by rw [← hG]; simp [h0]))
    clear hkF hG hsb hr hrg hsn h0
    have hsz1 := hBW.size
    have l100 : ((w1.alloc (.cells #[.bool sb, .int .u64 (k : Int), .int .i64 r] 52))).cell? ⟨w1.heap.size, 0, none⟩ = some (.bool sb) := by go_simp
    have l101 : ((w1.alloc (.cells #[.bool sb, .int .u64 (k : Int), .int .i64 r] 52))).cell? ⟨w1.heap.size, 1, none⟩ = some (.int .u64 (k : Int)) := by go_simp
    have l102 : ((w1.alloc (.cells #[.bool sb, .int .u64 (k : Int), .int .i64 r] 52))).cell? ⟨w1.heap.size, 2, none⟩ = some (.int .i64 r) := by go_simp
    have cb1 : Below w1.heap.size w1 ((w1.alloc (.cells #[.bool sb, .int .u64 (k : Int), .int .i64 r] 52))) := ((Below.refl _ _).alloc (by (try simp only [World.size_alloc]); omega) _)
    replace hBW := hBW.trans (cb1.mono hBW.size)
    replace q00 := below_cell cb1 q00
    replace q01 := below_cell cb1 q01
    replace q02 := below_cell cb1 q02
    have hL10 : Row ((w1.alloc (.cells #[.bool sb, .int .u64 (k : Int), .int .i64 r] 52))) (w1.heap.size) := by
      have := row_new (w1) #[.bool sb, .int .u64 (k : Int), .int .i64 r] 52
      try simp only [World.size_alloc] at this
      exact this
    go_wp2_with fail
    generalize (w1.alloc (.cells #[.bool sb, .int .u64 (k : Int), .int .i64 r] 52)) = w1x at q00 q01 q02 l100 l101 l102 hL10 hBW cb1 ⊢
    clear cb1
    refine (HF.out _).mono ?_
    rintro e w2 ⟨rfl, b2⟩
    replace hBW := hBW.trans (b2.mono hBW.size)
    replace q00 := below_cell b2 q00
    replace q01 := below_cell b2 q01
    replace q02 := below_cell b2 q02
    replace l100 := below_cell b2 l100
    replace l101 := below_cell b2 l101
    replace l102 := below_cell b2 l102
    replace hL10 := below_row b2 hL10
    go_wp2
    go_ret
    obtain ⟨k9, hk9, hc9⟩ := HA.out
    exact ⟨k9, hk9, hc9, hB.trans (hBW.mono hB.size)⟩
  · have e3 : (r != 0) = true := by rw [bne_iff_ne]; exact h0
    have HF := hide' (fun w' => float_is sb (!sb) k G r w' hkF (by rw [← hG]; simp [h0]))
    clear hkF hG hsb hr hrg hsn h0
    have hsz1 := hBW.size
    have l100 : ((w1.alloc (.cells #[.bool sb, .int .u64 (k : Int), .int .i64 r] 52))).cell? ⟨w1.heap.size, 0, none⟩ = some (.bool sb) := by go_simp
    have l101 : ((w1.alloc (.cells #[.bool sb, .int .u64 (k : Int), .int .i64 r] 52))).cell? ⟨w1.heap.size, 1, none⟩ = some (.int .u64 (k : Int)) := by go_simp
    have l102 : ((w1.alloc (.cells #[.bool sb, .int .u64 (k : Int), .int .i64 r] 52))).cell? ⟨w1.heap.size, 2, none⟩ = some (.int .i64 r) := by go_simp
    have cb1 : Below w1.heap.size w1 ((w1.alloc (.cells #[.bool sb, .int .u64 (k : Int), .int .i64 r] 52))) := ((Below.refl _ _).alloc (by (try simp only [World.size_alloc]); omega) _)
    replace hBW := hBW.trans (cb1.mono hBW.size)
    replace q00 := below_cell cb1 q00
    replace q01 := below_cell cb1 q01
    replace q02 := below_cell cb1 q02
    have hL10 : Row ((w1.alloc (.cells #[.bool sb, .int .u64 (k : Int), .int .i64 r] 52))) (w1.heap.size) := by
      have := row_new (w1) #[.bool sb, .int .u64 (k : Int), .int .i64 r] 52
      try simp only [World.size_alloc] at this
      exact this
    go_wp2_with fail
    generalize (w1.alloc (.cells #[.bool sb, .int .u64 (k : Int), .int .i64 r] 52)) = w1x at q00 q01 q02 l100 l101 l102 hL10 hBW cb1 ⊢
    clear cb1
    refine (HF.out _).mono ?_
    rintro e w2 ⟨rfl, b2⟩
    replace hBW := hBW.trans (b2.mono hBW.size)
    replace q00 := below_cell b2 q00
    replace q01 := below_cell b2 q01
    replace q02 := below_cell b2 q02
    replace l100 := below_cell b2 l100
    replace l101 := below_cell b2 l101
    replace l102 := below_cell b2 l102
    replace hL10 := below_row b2 hL10
    go_wp2
    go_ret
    obtain ⟨k9, hk9, hc9⟩ := HA.out
    exact ⟨k9, hk9, hc9, hB.trans (hBW.mono hB.size)⟩
end Go.Proofs.Ythecapmdionnmaa
