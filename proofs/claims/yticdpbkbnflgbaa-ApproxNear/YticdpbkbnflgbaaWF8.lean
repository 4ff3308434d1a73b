/-
  The reference's Nearest, Down, Up.
-/
import Derived.Test.YticdpbkbnflgbaaWF7
namespace Go.Proofs.Yticdpbkbnflgbaa
open Go.RowKit
set_option linter.unusedVariables false

theorem or_nought_l {b : Nat} (h : b < 18446744073709551616) : bits .or .u64 0 (b : Int) = (b : Int) := by
  have := u64_or_nat 0 b (by omega) h
  rw [Nat.zero_or] at this
  exact this
theorem or_sign_l {b : Nat} (h : b < SB) : bits .or .u64 9223372036854775808 (b : Int) = ((SB + b : Nat) : Int) := by
  have := u64_or_nat 9223372036854775808 b (by omega) (by rw [SBv] at h; omega)
  refine this.trans ?_
  congr 1
  rw [show (9223372036854775808 : Nat) = 2 ^ 63 * 1 by decide, ← Nat.two_pow_add_eq_or_of_lt (by rw [← SB_eq]; exact h), Nat.mul_one, SB_eq]
theorem or_fB {s : Bool} {X Y k : Nat} (h : k ≤ FI) : bits .or .u64 (sI s X Y) (k : Int) = ((fB (decide (rn s X Y < 0)) k : Nat) : Int) := by
  unfold sI fB
  have := FIv; have := SBv
  by_cases hn : rn s X Y < 0
  · rw [if_pos hn, decide_eq_true hn, if_pos rfl]; exact or_sign_l (by omega)
  · rw [if_neg hn, decide_eq_false hn, if_neg (by decide)]; exact or_nought_l (by omega)
theorem sI_ne {s : Bool} {X Y : Nat} : (sI s X Y != 0) = decide (rn s X Y < 0) := by
  unfold sI; split
  · rename_i h; rw [decide_eq_true h]; rfl
  · rename_i h; rw [decide_eq_false h]; rfl
theorem sI_eq {s : Bool} {X Y : Nat} : (sI s X Y == 0) = !(decide (rn s X Y < 0)) := by
  unfold sI; split
  · rename_i h; rw [decide_eq_true h]; rfl
  · rename_i h; rw [decide_eq_false h]; rfl

set_option maxHeartbeats 4000000 in
set_option maxRecDepth 100000 in
theorem away_is (a0 : Option Addr) (n0 c0 X0 : Nat) (b0 : Option Addr) (m0 d0 Y0 : Nat) (z T : Nat) (w : World) (hc0 : n0 ≤ c0) (hm0 : n0 ≤ 35184372087808) (hS0 : Seg w a0 X0 n0) (hd0 : m0 ≤ d0) (hk0 : m0 ≤ 35184372087808) (hT0 : Seg w b0 Y0 m0) (hz : z = 1074) (hT : T = 2 ^ z) :
    Calls Try.prog 60 #[Value.agg #[Value.bool false, Value.slice a0 n0 c0, Value.slice b0 m0 d0]] w fun e w' => ∃ k, e = .returned (.int .u64 (((if rst T (rN X0 Y0) (rd Y0) k = 0 then k else k + 1 : Nat)) : Int)) ∧ Cut T (rN X0 Y0) (rd Y0) k ∧ Below w.heap.size w w' := by
  have HB := hide' (fun w' k1 k2 => below_is a0 n0 c0 X0 b0 m0 d0 Y0 z T w' hc0 hm0 k1 hd0 hk0 k2 hz hT)
  clear hz hT
  go_enter Try.func60, Try.ntmps60
  go_wp2_with fail
  obtain ⟨W, hW⟩ : ∃ W, (w.alloc (.cells #[.bool false, .slice a0 n0 c0, .slice b0 m0 d0] 27)) = W := ⟨_, rfl⟩
  have q00 : W.cell? ⟨w.heap.size, 0, none⟩ = some (.bool false) := by subst hW; go_simp
  have q01 : W.cell? ⟨w.heap.size, 1, none⟩ = some (.slice a0 n0 c0) := by subst hW; go_simp
  have q02 : W.cell? ⟨w.heap.size, 2, none⟩ = some (.slice b0 m0 d0) := by subst hW; go_simp
  have hB : Below w.heap.size w W := by subst hW; exact ((Below.refl _ _).alloc (by (try simp only [World.size_alloc]); omega) _)
  have hz : W.heap.size = w.heap.size + 1 := by subst hW; simp only [World.size_alloc]
  rw [hW]
  clear hW
  have hBW : Below W.heap.size W W := Below.refl _ _
  go_wp2_with fail
  refine (HB.out _ (sb hS0 hB hBW) (sb hT0 hB hBW)).mono ?_
  rintro e w1 ⟨k, rfl, hCut, bb1⟩
  have b1 := bb1
  replace hBW := hBW.trans (b1.mono hBW.size)
  replace q00 := below_cell b1 q00
  replace q01 := below_cell b1 q01
  replace q02 := below_cell b1 q02
  have hk6 : k < 9218868437227405312 := hCut.1
  have HC := hide' hCut
  clear hCut
  by_cases hr : rst T (rN X0 Y0) (rd Y0) k = 0
  · have hd : decide (rN X0 Y0 * T = amt k * rd Y0) = true := decide_eq_true (rst_zero.1 hr)
    have HA : Hid (Ending.returned (.int .u64 (k : Int)) = .returned (.int .u64 (((if rst T (rN X0 Y0) (rd Y0) k = 0 then k else k + 1 : Nat)) : Int))) := by show _ = _; rw [if_pos hr]
    clear hr
    go_wp2
    go_ret
    exact ⟨k, HA.out, HC.out, hB.trans (hBW.mono hB.size)⟩
  · have hd : decide (rN X0 Y0 * T = amt k * rd Y0) = false := decide_eq_false (fun h => hr (rst_zero.2 h))
    have HA : Hid (Ending.returned (.int .u64 ((k : Int) + 1)) = .returned (.int .u64 (((if rst T (rN X0 Y0) (rd Y0) k = 0 then k else k + 1 : Nat)) : Int))) := by show _ = _; rw [if_neg hr]; rfl
    clear hr
    go_wp2
    go_ret
    exact ⟨k, HA.out, HC.out, hB.trans (hBW.mono hB.size)⟩
set_option maxHeartbeats 4000000 in
set_option maxRecDepth 100000 in
theorem vdownB_is (s0 : Bool) (a0 : Option Addr) (n0 c0 X0 : Nat) (b0 : Option Addr) (m0 d0 Y0 : Nat) (z T : Nat) (w : World) (hc0 : n0 ≤ c0) (hm0 : n0 ≤ 35184372087808) (hS0 : Seg w a0 X0 n0) (hd0 : m0 ≤ d0) (hk0 : m0 ≤ 35184372087808) (hT0 : Seg w b0 Y0 m0) (hz : z = 1074) (hT : T = 2 ^ z) :
    Calls Try.prog 46 #[Value.agg #[Value.bool s0, Value.slice a0 n0 c0, Value.slice b0 m0 d0]] w fun e w' => ∃ k, e = .returned (.int .u64 ((downB T s0 X0 Y0 k : Nat) : Int)) ∧ Cut T (rN X0 Y0) (rd Y0) k ∧ Below w.heap.size w w' := by
  have HM := hide' (fun w' k1 k2 => amount_is s0 a0 n0 c0 X0 b0 m0 d0 Y0 w' hc0 hm0 k1 hd0 hk0 k2)
  have HB := hide' (fun w' k1 k2 => below_is a0 n0 c0 X0 b0 m0 d0 Y0 z T w' hc0 hm0 k1 hd0 hk0 k2 hz hT)
  have HW := hide' (fun w' k1 k2 => away_is a0 n0 c0 X0 b0 m0 d0 Y0 z T w' hc0 hm0 k1 hd0 hk0 k2 hz hT)
  have hne := @sI_ne s0 X0 Y0
  have heq := @sI_eq s0 X0 Y0
  have hor := fun k h => @or_fB s0 X0 Y0 k h
  unfold downB
  clear hz hT
  by_cases hn : rn s0 X0 Y0 < 0
  · rw [decide_eq_true hn] at hne heq hor ⊢
    have HN := hide' hn
    clear hn
    have HO := hide' hor
    clear hor
    generalize sI s0 X0 Y0 = si at HM hne heq HO
    go_enter Try.func46, Try.ntmps46
    go_wp2_with fail
    obtain ⟨W, hW⟩ : ∃ W, (w.alloc (.cells #[.bool s0, .slice a0 n0 c0, .slice b0 m0 d0] 27)) = W := ⟨_, rfl⟩
    have q00 : W.cell? ⟨w.heap.size, 0, none⟩ = some (.bool s0) := by subst hW; go_simp
    have q01 : W.cell? ⟨w.heap.size, 1, none⟩ = some (.slice a0 n0 c0) := by subst hW; go_simp
    have q02 : W.cell? ⟨w.heap.size, 2, none⟩ = some (.slice b0 m0 d0) := by subst hW; go_simp
    have hB : Below w.heap.size w W := by subst hW; exact ((Below.refl _ _).alloc (by (try simp only [World.size_alloc]); omega) _)
    have hz : W.heap.size = w.heap.size + 1 := by subst hW; simp only [World.size_alloc]
    rw [hW]
    clear hW
    have hBW : Below W.heap.size W W := Below.refl _ _
    go_wp2_with fail
    refine (HM.out _ (sb hS0 hB hBW) (sb hT0 hB hBW)).mono ?_
    rintro e w1 ⟨rfl, b1⟩
    replace hBW := hBW.trans (b1.mono hBW.size)
    replace q00 := below_cell b1 q00
    replace q01 := below_cell b1 q01
    replace q02 := below_cell b1 q02
    have hsz1 := hBW.size
    have l100 : ((w1.alloc (.cells #[.bool false, .slice a0 n0 c0, .slice b0 m0 d0] 27))).cell? ⟨w1.heap.size, 0, none⟩ = some (.bool false) := by go_simp
    have l101 : ((w1.alloc (.cells #[.bool false, .slice a0 n0 c0, .slice b0 m0 d0] 27))).cell? ⟨w1.heap.size, 1, none⟩ = some (.slice a0 n0 c0) := by go_simp
    have l102 : ((w1.alloc (.cells #[.bool false, .slice a0 n0 c0, .slice b0 m0 d0] 27))).cell? ⟨w1.heap.size, 2, none⟩ = some (.slice b0 m0 d0) := by go_simp
    have cb1 : Below w1.heap.size w1 ((w1.alloc (.cells #[.bool false, .slice a0 n0 c0, .slice b0 m0 d0] 27))) := ((Below.refl _ _).alloc (by (try simp only [World.size_alloc]); omega) _)
    replace hBW := hBW.trans (cb1.mono hBW.size)
    replace q00 := below_cell cb1 q00
    replace q01 := below_cell cb1 q01
    replace q02 := below_cell cb1 q02
    have hL10 : Row ((w1.alloc (.cells #[.bool false, .slice a0 n0 c0, .slice b0 m0 d0] 27))) (w1.heap.size) := by
      have := row_new (w1) #[.bool false, .slice a0 n0 c0, .slice b0 m0 d0] 27
      try simp only [World.size_alloc] at this
      exact this
    go_wp2_with fail
    generalize (w1.alloc (.cells #[.bool false, .slice a0 n0 c0, .slice b0 m0 d0] 27)) = w1x at q00 q01 q02 l100 l101 l102 hL10 hBW cb1 ⊢
    clear cb1
    refine (HW.out _ (sb hS0 hB hBW) (sb hT0 hB hBW)).mono ?_
    rintro e w2 ⟨k, rfl, hCut, b2⟩
    replace hBW := hBW.trans (b2.mono hBW.size)
    replace q00 := below_cell b2 q00
    replace q01 := below_cell b2 q01
    replace q02 := below_cell b2 q02
    replace l100 := below_cell b2 l100
    replace l101 := below_cell b2 l101
    replace l102 := below_cell b2 l102
    replace hL10 := below_row b2 hL10
    have HC := hide' hCut
    have hkF := hCut.1
    clear hCut
    obtain ⟨j, hj⟩ : ∃ j : Nat, (if rst T (rN X0 Y0) (rd Y0) k = 0 then k else k + 1) = j := ⟨_, rfl⟩
    rw [hj]
    have hjF : j ≤ FI := by rw [← hj]; split <;> omega
    have HJ : Hid ((if rst T (rN X0 Y0) (rd Y0) k ≠ 0 ∧ rn s0 X0 Y0 < 0 then k + 1 else k) = j) := by show _ = _; rw [← hj]; by_cases h : rst T (rN X0 Y0) (rd Y0) k = 0 <;> simp [h, HN.out]
    have ho := HO.out j hjF
    obtain ⟨G, hG⟩ : ∃ G, fB true j = G := ⟨_, rfl⟩
    rw [hG] at ho
    have HG := hide' hG
    clear hG hjF hkF hj
    go_wp2
    go_ret
    exact ⟨k, by rw [HJ.out, HG.out]; rfl, HC.out, hB.trans (hBW.mono hB.size)⟩
  · rw [decide_eq_false hn] at hne heq hor ⊢
    have HN := hide' hn
    clear hn
    have HO := hide' hor
    clear hor
    generalize sI s0 X0 Y0 = si at HM hne heq HO
    go_enter Try.func46, Try.ntmps46
    go_wp2_with fail
    obtain ⟨W, hW⟩ : ∃ W, (w.alloc (.cells #[.bool s0, .slice a0 n0 c0, .slice b0 m0 d0] 27)) = W := ⟨_, rfl⟩
    have q00 : W.cell? ⟨w.heap.size, 0, none⟩ = some (.bool s0) := by subst hW; go_simp
    have q01 : W.cell? ⟨w.heap.size, 1, none⟩ = some (.slice a0 n0 c0) := by subst hW; go_simp
    have q02 : W.cell? ⟨w.heap.size, 2, none⟩ = some (.slice b0 m0 d0) := by subst hW; go_simp
    have hB : Below w.heap.size w W := by subst hW; exact ((Below.refl _ _).alloc (by (try simp only [World.size_alloc]); omega) _)
    have hz : W.heap.size = w.heap.size + 1 := by subst hW; simp only [World.size_alloc]
    rw [hW]
    clear hW
    have hBW : Below W.heap.size W W := Below.refl _ _
    go_wp2_with fail
    refine (HM.out _ (sb hS0 hB hBW) (sb hT0 hB hBW)).mono ?_
    rintro e w1 ⟨rfl, b1⟩
    replace hBW := hBW.trans (b1.mono hBW.size)
    replace q00 := below_cell b1 q00
    replace q01 := below_cell b1 q01
    replace q02 := below_cell b1 q02
    have hsz1 := hBW.size
    have l100 : ((w1.alloc (.cells #[.bool false, .slice a0 n0 c0, .slice b0 m0 d0] 27))).cell? ⟨w1.heap.size, 0, none⟩ = some (.bool false) := by go_simp
    have l101 : ((w1.alloc (.cells #[.bool false, .slice a0 n0 c0, .slice b0 m0 d0] 27))).cell? ⟨w1.heap.size, 1, none⟩ = some (.slice a0 n0 c0) := by go_simp
    have l102 : ((w1.alloc (.cells #[.bool false, .slice a0 n0 c0, .slice b0 m0 d0] 27))).cell? ⟨w1.heap.size, 2, none⟩ = some (.slice b0 m0 d0) := by go_simp
    have cb1 : Below w1.heap.size w1 ((w1.alloc (.cells #[.bool false, .slice a0 n0 c0, .slice b0 m0 d0] 27))) := ((Below.refl _ _).alloc (by (try simp only [World.size_alloc]); omega) _)
    replace hBW := hBW.trans (cb1.mono hBW.size)
    replace q00 := below_cell cb1 q00
    replace q01 := below_cell cb1 q01
    replace q02 := below_cell cb1 q02
    have hL10 : Row ((w1.alloc (.cells #[.bool false, .slice a0 n0 c0, .slice b0 m0 d0] 27))) (w1.heap.size) := by
      have := row_new (w1) #[.bool false, .slice a0 n0 c0, .slice b0 m0 d0] 27
      try simp only [World.size_alloc] at this
      exact this
    go_wp2_with fail
    generalize (w1.alloc (.cells #[.bool false, .slice a0 n0 c0, .slice b0 m0 d0] 27)) = w1x at q00 q01 q02 l100 l101 l102 hL10 hBW cb1 ⊢
    clear cb1
    refine (HB.out _ (sb hS0 hB hBW) (sb hT0 hB hBW)).mono ?_
    rintro e w2 ⟨k, rfl, hCut, b2⟩
    replace hBW := hBW.trans (b2.mono hBW.size)
    replace q00 := below_cell b2 q00
    replace q01 := below_cell b2 q01
    replace q02 := below_cell b2 q02
    replace l100 := below_cell b2 l100
    replace l101 := below_cell b2 l101
    replace l102 := below_cell b2 l102
    replace hL10 := below_row b2 hL10
    have HC := hide' hCut
    have hkF := hCut.1
    clear hCut
    have HJ : Hid ((if rst T (rN X0 Y0) (rd Y0) k ≠ 0 ∧ rn s0 X0 Y0 < 0 then k + 1 else k) = k) := by show _ = _; simp [HN.out]
    have hjF : k ≤ FI := by omega
    clear hjF hkF
    go_wp2
    go_ret
    exact ⟨k, by rw [HJ.out]; rfl, HC.out, hB.trans (hBW.mono hB.size)⟩
set_option maxHeartbeats 4000000 in
set_option maxRecDepth 100000 in
theorem vupB_is (s0 : Bool) (a0 : Option Addr) (n0 c0 X0 : Nat) (b0 : Option Addr) (m0 d0 Y0 : Nat) (z T : Nat) (w : World) (hc0 : n0 ≤ c0) (hm0 : n0 ≤ 35184372087808) (hS0 : Seg w a0 X0 n0) (hd0 : m0 ≤ d0) (hk0 : m0 ≤ 35184372087808) (hT0 : Seg w b0 Y0 m0) (hz : z = 1074) (hT : T = 2 ^ z) :
    Calls Try.prog 38 #[Value.agg #[Value.bool s0, Value.slice a0 n0 c0, Value.slice b0 m0 d0]] w fun e w' => ∃ k, e = .returned (.int .u64 ((upB T s0 X0 Y0 k : Nat) : Int)) ∧ Cut T (rN X0 Y0) (rd Y0) k ∧ Below w.heap.size w w' := by
  have HM := hide' (fun w' k1 k2 => amount_is s0 a0 n0 c0 X0 b0 m0 d0 Y0 w' hc0 hm0 k1 hd0 hk0 k2)
  have HB := hide' (fun w' k1 k2 => below_is a0 n0 c0 X0 b0 m0 d0 Y0 z T w' hc0 hm0 k1 hd0 hk0 k2 hz hT)
  have HW := hide' (fun w' k1 k2 => away_is a0 n0 c0 X0 b0 m0 d0 Y0 z T w' hc0 hm0 k1 hd0 hk0 k2 hz hT)
  have hne := @sI_ne s0 X0 Y0
  have heq := @sI_eq s0 X0 Y0
  have hor := fun k h => @or_fB s0 X0 Y0 k h
  unfold upB
  clear hz hT
  by_cases hn : rn s0 X0 Y0 < 0
  · rw [decide_eq_true hn] at hne heq hor ⊢
    have HN := hide' hn
    clear hn
    have HO := hide' hor
    clear hor
    generalize sI s0 X0 Y0 = si at HM hne heq HO
    go_enter Try.func38, Try.ntmps38
    go_wp2_with fail
    obtain ⟨W, hW⟩ : ∃ W, (w.alloc (.cells #[.bool s0, .slice a0 n0 c0, .slice b0 m0 d0] 27)) = W := ⟨_, rfl⟩
    have q00 : W.cell? ⟨w.heap.size, 0, none⟩ = some (.bool s0) := by subst hW; go_simp
    have q01 : W.cell? ⟨w.heap.size, 1, none⟩ = some (.slice a0 n0 c0) := by subst hW; go_simp
    have q02 : W.cell? ⟨w.heap.size, 2, none⟩ = some (.slice b0 m0 d0) := by subst hW; go_simp
    have hB : Below w.heap.size w W := by subst hW; exact ((Below.refl _ _).alloc (by (try simp only [World.size_alloc]); omega) _)
    have hz : W.heap.size = w.heap.size + 1 := by subst hW; simp only [World.size_alloc]
    rw [hW]
    clear hW
    have hBW : Below W.heap.size W W := Below.refl _ _
    go_wp2_with fail
    refine (HM.out _ (sb hS0 hB hBW) (sb hT0 hB hBW)).mono ?_
    rintro e w1 ⟨rfl, b1⟩
    replace hBW := hBW.trans (b1.mono hBW.size)
    replace q00 := below_cell b1 q00
    replace q01 := below_cell b1 q01
    replace q02 := below_cell b1 q02
    have hsz1 := hBW.size
    have l100 : ((w1.alloc (.cells #[.bool false, .slice a0 n0 c0, .slice b0 m0 d0] 27))).cell? ⟨w1.heap.size, 0, none⟩ = some (.bool false) := by go_simp
    have l101 : ((w1.alloc (.cells #[.bool false, .slice a0 n0 c0, .slice b0 m0 d0] 27))).cell? ⟨w1.heap.size, 1, none⟩ = some (.slice a0 n0 c0) := by go_simp
    have l102 : ((w1.alloc (.cells #[.bool false, .slice a0 n0 c0, .slice b0 m0 d0] 27))).cell? ⟨w1.heap.size, 2, none⟩ = some (.slice b0 m0 d0) := by go_simp
    have cb1 : Below w1.heap.size w1 ((w1.alloc (.cells #[.bool false, .slice a0 n0 c0, .slice b0 m0 d0] 27))) := ((Below.refl _ _).alloc (by (try simp only [World.size_alloc]); omega) _)
    replace hBW := hBW.trans (cb1.mono hBW.size)
    replace q00 := below_cell cb1 q00
    replace q01 := below_cell cb1 q01
    replace q02 := below_cell cb1 q02
    have hL10 : Row ((w1.alloc (.cells #[.bool false, .slice a0 n0 c0, .slice b0 m0 d0] 27))) (w1.heap.size) := by
      have := row_new (w1) #[.bool false, .slice a0 n0 c0, .slice b0 m0 d0] 27
      try simp only [World.size_alloc] at this
      exact this
    go_wp2_with fail
    generalize (w1.alloc (.cells #[.bool false, .slice a0 n0 c0, .slice b0 m0 d0] 27)) = w1x at q00 q01 q02 l100 l101 l102 hL10 hBW cb1 ⊢
    clear cb1
    refine (HB.out _ (sb hS0 hB hBW) (sb hT0 hB hBW)).mono ?_
    rintro e w2 ⟨k, rfl, hCut, b2⟩
    replace hBW := hBW.trans (b2.mono hBW.size)
    replace q00 := below_cell b2 q00
    replace q01 := below_cell b2 q01
    replace q02 := below_cell b2 q02
    replace l100 := below_cell b2 l100
    replace l101 := below_cell b2 l101
    replace l102 := below_cell b2 l102
    replace hL10 := below_row b2 hL10
    have HC := hide' hCut
    have hkF := hCut.1
    clear hCut
    have HJ : Hid ((if rst T (rN X0 Y0) (rd Y0) k ≠ 0 ∧ ¬rn s0 X0 Y0 < 0 then k + 1 else k) = k) := by show _ = _; simp [HN.out]
    have hjF : k ≤ FI := by omega
    have ho := HO.out k hjF
    obtain ⟨G, hG⟩ : ∃ G, fB true k = G := ⟨_, rfl⟩
    rw [hG] at ho
    have HG := hide' hG
    clear hG hjF hkF
    go_wp2
    go_ret
    exact ⟨k, by rw [HJ.out, HG.out]; rfl, HC.out, hB.trans (hBW.mono hB.size)⟩
  · rw [decide_eq_false hn] at hne heq hor ⊢
    have HN := hide' hn
    clear hn
    have HO := hide' hor
    clear hor
    generalize sI s0 X0 Y0 = si at HM hne heq HO
    go_enter Try.func38, Try.ntmps38
    go_wp2_with fail
    obtain ⟨W, hW⟩ : ∃ W, (w.alloc (.cells #[.bool s0, .slice a0 n0 c0, .slice b0 m0 d0] 27)) = W := ⟨_, rfl⟩
    have q00 : W.cell? ⟨w.heap.size, 0, none⟩ = some (.bool s0) := by subst hW; go_simp
    have q01 : W.cell? ⟨w.heap.size, 1, none⟩ = some (.slice a0 n0 c0) := by subst hW; go_simp
    have q02 : W.cell? ⟨w.heap.size, 2, none⟩ = some (.slice b0 m0 d0) := by subst hW; go_simp
    have hB : Below w.heap.size w W := by subst hW; exact ((Below.refl _ _).alloc (by (try simp only [World.size_alloc]); omega) _)
    have hz : W.heap.size = w.heap.size + 1 := by subst hW; simp only [World.size_alloc]
    rw [hW]
    clear hW
    have hBW : Below W.heap.size W W := Below.refl _ _
    go_wp2_with fail
    refine (HM.out _ (sb hS0 hB hBW) (sb hT0 hB hBW)).mono ?_
    rintro e w1 ⟨rfl, b1⟩
    replace hBW := hBW.trans (b1.mono hBW.size)
    replace q00 := below_cell b1 q00
    replace q01 := below_cell b1 q01
    replace q02 := below_cell b1 q02
    have hsz1 := hBW.size
    have l100 : ((w1.alloc (.cells #[.bool false, .slice a0 n0 c0, .slice b0 m0 d0] 27))).cell? ⟨w1.heap.size, 0, none⟩ = some (.bool false) := by go_simp
    have l101 : ((w1.alloc (.cells #[.bool false, .slice a0 n0 c0, .slice b0 m0 d0] 27))).cell? ⟨w1.heap.size, 1, none⟩ = some (.slice a0 n0 c0) := by go_simp
    have l102 : ((w1.alloc (.cells #[.bool false, .slice a0 n0 c0, .slice b0 m0 d0] 27))).cell? ⟨w1.heap.size, 2, none⟩ = some (.slice b0 m0 d0) := by go_simp
    have cb1 : Below w1.heap.size w1 ((w1.alloc (.cells #[.bool false, .slice a0 n0 c0, .slice b0 m0 d0] 27))) := ((Below.refl _ _).alloc (by (try simp only [World.size_alloc]); omega) _)
    replace hBW := hBW.trans (cb1.mono hBW.size)
    replace q00 := below_cell cb1 q00
    replace q01 := below_cell cb1 q01
    replace q02 := below_cell cb1 q02
    have hL10 : Row ((w1.alloc (.cells #[.bool false, .slice a0 n0 c0, .slice b0 m0 d0] 27))) (w1.heap.size) := by
      have := row_new (w1) #[.bool false, .slice a0 n0 c0, .slice b0 m0 d0] 27
      try simp only [World.size_alloc] at this
      exact this
    go_wp2_with fail
    generalize (w1.alloc (.cells #[.bool false, .slice a0 n0 c0, .slice b0 m0 d0] 27)) = w1x at q00 q01 q02 l100 l101 l102 hL10 hBW cb1 ⊢
    clear cb1
    refine (HW.out _ (sb hS0 hB hBW) (sb hT0 hB hBW)).mono ?_
    rintro e w2 ⟨k, rfl, hCut, b2⟩
    replace hBW := hBW.trans (b2.mono hBW.size)
    replace q00 := below_cell b2 q00
    replace q01 := below_cell b2 q01
    replace q02 := below_cell b2 q02
    replace l100 := below_cell b2 l100
    replace l101 := below_cell b2 l101
    replace l102 := below_cell b2 l102
    replace hL10 := below_row b2 hL10
    have HC := hide' hCut
    have hkF := hCut.1
    clear hCut
    obtain ⟨j, hj⟩ : ∃ j : Nat, (if rst T (rN X0 Y0) (rd Y0) k = 0 then k else k + 1) = j := ⟨_, rfl⟩
    rw [hj]
    have hjF : j ≤ FI := by rw [← hj]; split <;> omega
    have HJ : Hid ((if rst T (rN X0 Y0) (rd Y0) k ≠ 0 ∧ ¬rn s0 X0 Y0 < 0 then k + 1 else k) = j) := by show _ = _; rw [← hj]; by_cases h : rst T (rN X0 Y0) (rd Y0) k = 0 <;> simp [h, HN.out]
    clear hjF hkF hj
    go_wp2
    go_ret
    exact ⟨k, by rw [HJ.out]; rfl, HC.out, hB.trans (hBW.mono hB.size)⟩
end Go.Proofs.Yticdpbkbnflgbaa
