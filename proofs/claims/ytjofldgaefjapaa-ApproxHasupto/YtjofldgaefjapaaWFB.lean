/-
  The reference's three roundings as floats.
-/
import Derived.Test.YtjofldgaefjapaaWF7
namespace Go.Proofs.Ytjofldgaefjapaa
open Go.RowKit
set_option linter.unusedVariables false

theorem or_nought_l {b : Nat} (h : b < 18446744073709551616) : bits .or .u64 0 (b : Int) = (b : Int) := by
  have := u64_or_nat 0 b (by omega) h
  rw [Nat.zero_or] at this
  exact this
theorem or_sign_l {b : Nat} (h : b < SB) : bits .or .u64 9223372036854775808 (b : Int) = ((SB + b : Nat) : Int) := by
  have := u64_or_nat 9223372036854775808 b (by omega) (by rw [SBv] at h; omega)
  refine this.trans ?_
  congr 1
  rw [show (9223372036854775808 : Nat) = 2 ^ 63 * 1 by decide, ← Nat.two_pow_add_eq_or_of_lt (by rw [← SB_eq]; exact h), Nat.mul_one, SB_eq]
theorem or_fB {s : Bool} {X Y k : Nat} (h : k ≤ FI) : bits .or .u64 (sI s X Y) (k : Int) = ((fB (decide (rn s X Y < 0)) k : Nat) : Int) := by
  unfold sI fB
  have := FIv; have := SBv
  by_cases hn : rn s X Y < 0
  · rw [if_pos hn, decide_eq_true hn, if_pos rfl]; exact or_sign_l (by omega)
  · rw [if_neg hn, decide_eq_false hn, if_neg (by decide)]; exact or_nought_l (by omega)
theorem sI_ne {s : Bool} {X Y : Nat} : (sI s X Y != 0) = decide (rn s X Y < 0) := by
  unfold sI; split
  · rename_i h; rw [decide_eq_true h]; rfl
  · rename_i h; rw [decide_eq_false h]; rfl
theorem sI_eq {s : Bool} {X Y : Nat} : (sI s X Y == 0) = !(decide (rn s X Y < 0)) := by
  unfold sI; split
  · rename_i h; rw [decide_eq_true h]; rfl
  · rename_i h; rw [decide_eq_false h]; rfl

set_option maxHeartbeats 4000000 in
set_option maxRecDepth 100000 in
theorem away_is (a0 : Option Addr) (n0 c0 X0 : Nat) (b0 : Option Addr) (m0 d0 Y0 : Nat) (z T : Nat) (w : World) (hc0 : n0 ≤ c0) (hm0 : n0 ≤ 35184372087808) (hS0 : Seg w a0 X0 n0) (hd0 : m0 ≤ d0) (hk0 : m0 ≤ 35184372087808) (hT0 : Seg w b0 Y0 m0) (hz : z = 1074) (hT : T = 2 ^ z) :
    Calls Try.prog 59 #[Value.agg #[Value.bool false, Value.slice a0 n0 c0, Value.slice b0 m0 d0]] w fun e w' => ∃ k, e = .returned (.int .u64 (((if rst T (rN X0 Y0) (rd Y0) k = 0 then k else k + 1 : Nat)) : Int)) ∧ Cut T (rN X0 Y0) (rd Y0) k ∧ Below w.heap.size w w' := by
  have HB := hide' (fun w' k1 k2 => below_is a0 n0 c0 X0 b0 m0 d0 Y0 z T w' hc0 hm0 k1 hd0 hk0 k2 hz hT)
  clear hz hT
  go_enter Try.func59, Try.ntmps59
  go_wp2_with fail
  have q00 : ((w.alloc (.cells #[.bool false, .slice a0 n0 c0, .slice b0 m0 d0] 27))).cell? ⟨w.heap.size, 0, none⟩ = some (.bool false) := by go_simp
  have q01 : ((w.alloc (.cells #[.bool false, .slice a0 n0 c0, .slice b0 m0 d0] 27))).cell? ⟨w.heap.size, 1, none⟩ = some (.slice a0 n0 c0) := by go_simp
  have q02 : ((w.alloc (.cells #[.bool false, .slice a0 n0 c0, .slice b0 m0 d0] 27))).cell? ⟨w.heap.size, 2, none⟩ = some (.slice b0 m0 d0) := by go_simp
  have hB : Below w.heap.size w ((w.alloc (.cells #[.bool false, .slice a0 n0 c0, .slice b0 m0 d0] 27))) := ((Below.refl _ _).alloc (by (try simp only [World.size_alloc]); omega) _)
  have hz : ((w.alloc (.cells #[.bool false, .slice a0 n0 c0, .slice b0 m0 d0] 27))).heap.size = w.heap.size + 1 := by simp only [World.size_alloc]
  generalize (w.alloc (.cells #[.bool false, .slice a0 n0 c0, .slice b0 m0 d0] 27)) = W at q00 q01 q02 hB hz ⊢
  have hBW : Below W.heap.size W W := Below.refl _ _
  go_wp2_with fail
  refine (HB.out _ (sb hS0 hB hBW) (sb hT0 hB hBW)).mono ?_
  rintro e w1 ⟨k, rfl, hCut, bb1⟩
  have b1 := bb1
  replace hBW := hBW.trans (b1.mono hBW.size)
  replace q00 := below_cell b1 q00
  replace q01 := below_cell b1 q01
  replace q02 := below_cell b1 q02
  have hk6 : k < 9218868437227405312 := hCut.1
  have HC := hide' hCut
  clear hCut
  by_cases hr : rst T (rN X0 Y0) (rd Y0) k = 0
  · have hd : decide (rN X0 Y0 * T = amt k * rd Y0) = true := decide_eq_true (rst_zero.1 hr)
    have HA : Hid (Ending.returned (.int .u64 (k : Int)) = .returned (.int .u64 (((if rst T (rN X0 Y0) (rd Y0) k = 0 then k else k + 1 : Nat)) : Int))) := by show _ = _; rw [if_pos hr]
    clear hr
    go_wp2
    go_ret
    exact ⟨k, HA.out, HC.out, hB.trans (hBW.mono hB.size)⟩
  · have hd : decide (rN X0 Y0 * T = amt k * rd Y0) = false := decide_eq_false (fun h => hr (rst_zero.2 h))
    have HA : Hid (Ending.returned (.int .u64 ((k : Int) + 1)) = .returned (.int .u64 (((if rst T (rN X0 Y0) (rd Y0) k = 0 then k else k + 1 : Nat)) : Int))) := by show _ = _; rw [if_neg hr]; rfl
    clear hr
    go_wp2
    go_ret
    exact ⟨k, HA.out, HC.out, hB.trans (hBW.mono hB.size)⟩
set_option maxHeartbeats 4000000 in
set_option maxRecDepth 100000 in
theorem vdownB_is (s0 : Bool) (a0 : Option Addr) (n0 c0 X0 : Nat) (b0 : Option Addr) (m0 d0 Y0 : Nat) (z T : Nat) (w : World) (hc0 : n0 ≤ c0) (hm0 : n0 ≤ 35184372087808) (hS0 : Seg w a0 X0 n0) (hd0 : m0 ≤ d0) (hk0 : m0 ≤ 35184372087808) (hT0 : Seg w b0 Y0 m0) (hz : z = 1074) (hT : T = 2 ^ z) :
    Calls Try.prog 31 #[Value.agg #[Value.bool s0, Value.slice a0 n0 c0, Value.slice b0 m0 d0]] w fun e w' => ∃ k, e = .returned (.int .u64 ((downB T s0 X0 Y0 k : Nat) : Int)) ∧ Cut T (rN X0 Y0) (rd Y0) k ∧ Below w.heap.size w w' := by
  have HM := hide' (fun w' k1 k2 => amount_is s0 a0 n0 c0 X0 b0 m0 d0 Y0 w' hc0 hm0 k1 hd0 hk0 k2)
  have HB := hide' (fun w' k1 k2 => below_is a0 n0 c0 X0 b0 m0 d0 Y0 z T w' hc0 hm0 k1 hd0 hk0 k2 hz hT)
  have HW := hide' (fun w' k1 k2 => away_is a0 n0 c0 X0 b0 m0 d0 Y0 z T w' hc0 hm0 k1 hd0 hk0 k2 hz hT)
  have hne := @sI_ne s0 X0 Y0
  have heq := @sI_eq s0 X0 Y0
  have hor := fun k h => @or_fB s0 X0 Y0 k h
  unfold downB
  clear hz hT
  by_cases hn : rn s0 X0 Y0 < 0
  · rw [decide_eq_true hn] at hne heq hor ⊢
    have HN := hide' hn
    clear hn
    have HO := hide' hor
    clear hor
    generalize sI s0 X0 Y0 = si at HM hne heq HO
    go_enter Try.func31, Try.ntmps31
    go_wp2_with fail
    have q00 : ((w.alloc (.cells #[.bool s0, .slice a0 n0 c0, .slice b0 m0 d0] 27))).cell? ⟨w.heap.size, 0, none⟩ = some (.bool s0) := by go_simp
    have q01 : ((w.alloc (.cells #[.bool s0, .slice a0 n0 c0, .slice b0 m0 d0] 27))).cell? ⟨w.heap.size, 1, none⟩ = some (.slice a0 n0 c0) := by go_simp
    have q02 : ((w.alloc (.cells #[.bool s0, .slice a0 n0 c0, .slice b0 m0 d0] 27))).cell? ⟨w.heap.size, 2, none⟩ = some (.slice b0 m0 d0) := by go_simp
    have hB : Below w.heap.size w ((w.alloc (.cells #[.bool s0, .slice a0 n0 c0, .slice b0 m0 d0] 27))) := ((Below.refl _ _).alloc (by (try simp only [World.size_alloc]); omega) _)
    have hz : ((w.alloc (.cells #[.bool s0, .slice a0 n0 c0, .slice b0 m0 d0] 27))).heap.size = w.heap.size + 1 := by simp only [World.size_alloc]
    generalize (w.alloc (.cells #[.bool s0, .slice a0 n0 c0, .slice b0 m0 d0] 27)) = W at q00 q01 q02 hB hz ⊢
    have hBW : Below W.heap.size W W := Below.refl _ _
    go_wp2_with fail
    refine (HM.out _ (sb hS0 hB hBW) (sb hT0 hB hBW)).mono ?_
    rintro e w1 ⟨rfl, b1⟩
    replace hBW := hBW.trans (b1.mono hBW.size)
    replace q00 := below_cell b1 q00
    replace q01 := below_cell b1 q01
    replace q02 := below_cell b1 q02
    have hsz1 := hBW.size
    have l100 : ((w1.alloc (.cells #[.bool false, .slice a0 n0 c0, .slice b0 m0 d0] 27))).cell? ⟨w1.heap.size, 0, none⟩ = some (.bool false) := by go_simp
    have l101 : ((w1.alloc (.cells #[.bool false, .slice a0 n0 c0, .slice b0 m0 d0] 27))).cell? ⟨w1.heap.size, 1, none⟩ = some (.slice a0 n0 c0) := by go_simp
    have l102 : ((w1.alloc (.cells #[.bool false, .slice a0 n0 c0, .slice b0 m0 d0] 27))).cell? ⟨w1.heap.size, 2, none⟩ = some (.slice b0 m0 d0) := by go_simp
    have cb1 : Below w1.heap.size w1 ((w1.alloc (.cells #[.bool false, .slice a0 n0 c0, .slice b0 m0 d0] 27))) := ((Below.refl _ _).alloc (by (try simp only [World.size_alloc]); omega) _)
    replace hBW := hBW.trans (cb1.mono hBW.size)
    replace q00 := below_cell cb1 q00
    replace q01 := below_cell cb1 q01
    replace q02 := below_cell cb1 q02
    have hL10 : Row ((w1.alloc (.cells #[.bool false, .slice a0 n0 c0, .slice b0 m0 d0] 27))) (w1.heap.size) := by
      have := row_new (w1) #[.bool false, .slice a0 n0 c0, .slice b0 m0 d0] 27
      try simp only [World.size_alloc] at this
      exact this
    go_wp2_with fail
    generalize (w1.alloc (.cells #[.bool false, .slice a0 n0 c0, .slice b0 m0 d0] 27)) = w1x at q00 q01 q02 l100 l101 l102 hL10 hBW cb1 ⊢
    clear cb1
    refine (HW.out _ (sb hS0 hB hBW) (sb hT0 hB hBW)).mono ?_
    rintro e w2 ⟨k, rfl, hCut, b2⟩
    replace hBW := hBW.trans (b2.mono hBW.size)
    replace q00 := below_cell b2 q00
    replace q01 := below_cell b2 q01
    replace q02 := below_cell b2 q02
    replace l100 := below_cell b2 l100
    replace l101 := below_cell b2 l101
    replace l102 := below_cell b2 l102
    replace hL10 := below_row b2 hL10
    have HC := hide' hCut
    have hkF := hCut.1
    clear hCut
    obtain ⟨j, hj⟩ : ∃ j : Nat, (if rst T (rN X0 Y0) (rd Y0) k = 0 then k else k + 1) = j := ⟨_, rfl⟩
    rw [hj]
    have hjF : j ≤ FI := by rw [← hj]; split <;> omega
    have HJ : Hid ((if rst T (rN X0 Y0) (rd Y0) k ≠ 0 ∧ rn s0 X0 Y0 < 0 then k + 1 else k) = j) := by show _ = _; rw [← hj]; by_cases h : rst T (rN X0 Y0) (rd Y0) k = 0 <;> simp [h, HN.out]
    have ho := HO.out j hjF
    obtain ⟨G, hG⟩ : ∃ G, fB true j = G := ⟨_, rfl⟩
    rw [hG] at ho
    have HG := hide' hG
    clear hG hjF hkF hj
    go_wp2
    go_ret
    exact ⟨k, by rw [HJ.out, HG.out]; rfl, HC.out, hB.trans (hBW.mono hB.size)⟩
  · rw [decide_eq_false hn] at hne heq hor ⊢
    have HN := hide' hn
    clear hn
    have HO := hide' hor
    clear hor
    generalize sI s0 X0 Y0 = si at HM hne heq HO
    go_enter Try.func31, Try.ntmps31
    go_wp2_with fail
    have q00 : ((w.alloc (.cells #[.bool s0, .slice a0 n0 c0, .slice b0 m0 d0] 27))).cell? ⟨w.heap.size, 0, none⟩ = some (.bool s0) := by go_simp
    have q01 : ((w.alloc (.cells #[.bool s0, .slice a0 n0 c0, .slice b0 m0 d0] 27))).cell? ⟨w.heap.size, 1, none⟩ = some (.slice a0 n0 c0) := by go_simp
    have q02 : ((w.alloc (.cells #[.bool s0, .slice a0 n0 c0, .slice b0 m0 d0] 27))).cell? ⟨w.heap.size, 2, none⟩ = some (.slice b0 m0 d0) := by go_simp
    have hB : Below w.heap.size w ((w.alloc (.cells #[.bool s0, .slice a0 n0 c0, .slice b0 m0 d0] 27))) := ((Below.refl _ _).alloc (by (try simp only [World.size_alloc]); omega) _)
    have hz : ((w.alloc (.cells #[.bool s0, .slice a0 n0 c0, .slice b0 m0 d0] 27))).heap.size = w.heap.size + 1 := by simp only [World.size_alloc]
    generalize (w.alloc (.cells #[.bool s0, .slice a0 n0 c0, .slice b0 m0 d0] 27)) = W at q00 q01 q02 hB hz ⊢
    have hBW : Below W.heap.size W W := Below.refl _ _
    go_wp2_with fail
    refine (HM.out _ (sb hS0 hB hBW) (sb hT0 hB hBW)).mono ?_
    rintro e w1 ⟨rfl, b1⟩
    replace hBW := hBW.trans (b1.mono hBW.size)
    replace q00 := below_cell b1 q00
    replace q01 := below_cell b1 q01
    replace q02 := below_cell b1 q02
    have hsz1 := hBW.size
    have l100 : ((w1.alloc (.cells #[.bool false, .slice a0 n0 c0, .slice b0 m0 d0] 27))).cell? ⟨w1.heap.size, 0, none⟩ = some (.bool false) := by go_simp
    have l101 : ((w1.alloc (.cells #[.bool false, .slice a0 n0 c0, .slice b0 m0 d0] 27))).cell? ⟨w1.heap.size, 1, none⟩ = some (.slice a0 n0 c0) := by go_simp
    have l102 : ((w1.alloc (.cells #[.bool false, .slice a0 n0 c0, .slice b0 m0 d0] 27))).cell? ⟨w1.heap.size, 2, none⟩ = some (.slice b0 m0 d0) := by go_simp
    have cb1 : Below w1.heap.size w1 ((w1.alloc (.cells #[.bool false, .slice a0 n0 c0, .slice b0 m0 d0] 27))) := ((Below.refl _ _).alloc (by (try simp only [World.size_alloc]); omega) _)
    replace hBW := hBW.trans (cb1.mono hBW.size)
    replace q00 := below_cell cb1 q00
    replace q01 := below_cell cb1 q01
    replace q02 := below_cell cb1 q02
    have hL10 : Row ((w1.alloc (.cells #[.bool false, .slice a0 n0 c0, .slice b0 m0 d0] 27))) (w1.heap.size) := by
      have := row_new (w1) #[.bool false, .slice a0 n0 c0, .slice b0 m0 d0] 27
      try simp only [World.size_alloc] at this
      exact this
    go_wp2_with fail
    generalize (w1.alloc (.cells #[.bool false, .slice a0 n0 c0, .slice b0 m0 d0] 27)) = w1x at q00 q01 q02 l100 l101 l102 hL10 hBW cb1 ⊢
    clear cb1
    refine (HB.out _ (sb hS0 hB hBW) (sb hT0 hB hBW)).mono ?_
    rintro e w2 ⟨k, rfl, hCut, b2⟩
    replace hBW := hBW.trans (b2.mono hBW.size)
    replace q00 := below_cell b2 q00
    replace q01 := below_cell b2 q01
    replace q02 := below_cell b2 q02
    replace l100 := below_cell b2 l100
    replace l101 := below_cell b2 l101
    replace l102 := below_cell b2 l102
    replace hL10 := below_row b2 hL10
    have HC := hide' hCut
    have hkF := hCut.1
    clear hCut
    have HJ : Hid ((if rst T (rN X0 Y0) (rd Y0) k ≠ 0 ∧ rn s0 X0 Y0 < 0 then k + 1 else k) = k) := by show _ = _; simp [HN.out]
    have hjF : k ≤ FI := by omega
    clear hjF hkF
    go_wp2
    go_ret
    exact ⟨k, by rw [HJ.out]; rfl, HC.out, hB.trans (hBW.mono hB.size)⟩
set_option maxHeartbeats 4000000 in
set_option maxRecDepth 100000 in
theorem vupB_is (s0 : Bool) (a0 : Option Addr) (n0 c0 X0 : Nat) (b0 : Option Addr) (m0 d0 Y0 : Nat) (z T : Nat) (w : World) (hc0 : n0 ≤ c0) (hm0 : n0 ≤ 35184372087808) (hS0 : Seg w a0 X0 n0) (hd0 : m0 ≤ d0) (hk0 : m0 ≤ 35184372087808) (hT0 : Seg w b0 Y0 m0) (hz : z = 1074) (hT : T = 2 ^ z) :
    Calls Try.prog 32 #[Value.agg #[Value.bool s0, Value.slice a0 n0 c0, Value.slice b0 m0 d0]] w fun e w' => ∃ k, e = .returned (.int .u64 ((upB T s0 X0 Y0 k : Nat) : Int)) ∧ Cut T (rN X0 Y0) (rd Y0) k ∧ Below w.heap.size w w' := by
  have HM := hide' (fun w' k1 k2 => amount_is s0 a0 n0 c0 X0 b0 m0 d0 Y0 w' hc0 hm0 k1 hd0 hk0 k2)
  have HB := hide' (fun w' k1 k2 => below_is a0 n0 c0 X0 b0 m0 d0 Y0 z T w' hc0 hm0 k1 hd0 hk0 k2 hz hT)
  have HW := hide' (fun w' k1 k2 => away_is a0 n0 c0 X0 b0 m0 d0 Y0 z T w' hc0 hm0 k1 hd0 hk0 k2 hz hT)
  have hne := @sI_ne s0 X0 Y0
  have heq := @sI_eq s0 X0 Y0
  have hor := fun k h => @or_fB s0 X0 Y0 k h
  unfold upB
  clear hz hT
  by_cases hn : rn s0 X0 Y0 < 0
  · rw [decide_eq_true hn] at hne heq hor ⊢
    have HN := hide' hn
    clear hn
    have HO := hide' hor
    clear hor
    generalize sI s0 X0 Y0 = si at HM hne heq HO
    go_enter Try.func32, Try.ntmps32
    go_wp2_with fail
    have q00 : ((w.alloc (.cells #[.bool s0, .slice a0 n0 c0, .slice b0 m0 d0] 27))).cell? ⟨w.heap.size, 0, none⟩ = some (.bool s0) := by go_simp
    have q01 : ((w.alloc (.cells #[.bool s0, .slice a0 n0 c0, .slice b0 m0 d0] 27))).cell? ⟨w.heap.size, 1, none⟩ = some (.slice a0 n0 c0) := by go_simp
    have q02 : ((w.alloc (.cells #[.bool s0, .slice a0 n0 c0, .slice b0 m0 d0] 27))).cell? ⟨w.heap.size, 2, none⟩ = some (.slice b0 m0 d0) := by go_simp
    have hB : Below w.heap.size w ((w.alloc (.cells #[.bool s0, .slice a0 n0 c0, .slice b0 m0 d0] 27))) := ((Below.refl _ _).alloc (by (try simp only [World.size_alloc]); omega) _)
    have hz : ((w.alloc (.cells #[.bool s0, .slice a0 n0 c0, .slice b0 m0 d0] 27))).heap.size = w.heap.size + 1 := by simp only [World.size_alloc]
    generalize (w.alloc (.cells #[.bool s0, .slice a0 n0 c0, .slice b0 m0 d0] 27)) = W at q00 q01 q02 hB hz ⊢
    have hBW : Below W.heap.size W W := Below.refl _ _
    go_wp2_with fail
    refine (HM.out _ (sb hS0 hB hBW) (sb hT0 hB hBW)).mono ?_
    rintro e w1 ⟨rfl, b1⟩
    replace hBW := hBW.trans (b1.mono hBW.size)
    replace q00 := below_cell b1 q00
    replace q01 := below_cell b1 q01
    replace q02 := below_cell b1 q02
    have hsz1 := hBW.size
    have l100 : ((w1.alloc (.cells #[.bool false, .slice a0 n0 c0, .slice b0 m0 d0] 27))).cell? ⟨w1.heap.size, 0, none⟩ = some (.bool false) := by go_simp
    have l101 : ((w1.alloc (.cells #[.bool false, .slice a0 n0 c0, .slice b0 m0 d0] 27))).cell? ⟨w1.heap.size, 1, none⟩ = some (.slice a0 n0 c0) := by go_simp
    have l102 : ((w1.alloc (.cells #[.bool false, .slice a0 n0 c0, .slice b0 m0 d0] 27))).cell? ⟨w1.heap.size, 2, none⟩ = some (.slice b0 m0 d0) := by go_simp
    have cb1 : Below w1.heap.size w1 ((w1.alloc (.cells #[.bool false, .slice a0 n0 c0, .slice b0 m0 d0] 27))) := ((Below.refl _ _).alloc (by (try simp only [World.size_alloc]); omega) _)
    replace hBW := hBW.trans (cb1.mono hBW.size)
    replace q00 := below_cell cb1 q00
    replace q01 := below_cell cb1 q01
    replace q02 := below_cell cb1 q02
    have hL10 : Row ((w1.alloc (.cells #[.bool false, .slice a0 n0 c0, .slice b0 m0 d0] 27))) (w1.heap.size) := by
      have := row_new (w1) #[.bool false, .slice a0 n0 c0, .slice b0 m0 d0] 27
      try simp only [World.size_alloc] at this
      exact this
    go_wp2_with fail
    generalize (w1.alloc (.cells #[.bool false, .slice a0 n0 c0, .slice b0 m0 d0] 27)) = w1x at q00 q01 q02 l100 l101 l102 hL10 hBW cb1 ⊢
    clear cb1
    refine (HB.out _ (sb hS0 hB hBW) (sb hT0 hB hBW)).mono ?_
    rintro e w2 ⟨k, rfl, hCut, b2⟩
    replace hBW := hBW.trans (b2.mono hBW.size)
    replace q00 := below_cell b2 q00
    replace q01 := below_cell b2 q01
    replace q02 := below_cell b2 q02
    replace l100 := below_cell b2 l100
    replace l101 := below_cell b2 l101
    replace l102 := below_cell b2 l102
    replace hL10 := below_row b2 hL10
    have HC := hide' hCut
    have hkF := hCut.1
    clear hCut
    have HJ : Hid ((if rst T (rN X0 Y0) (rd Y0) k ≠ 0 ∧ ¬rn s0 X0 Y0 < 0 then k + 1 else k) = k) := by show _ = _; simp [HN.out]
    have hjF : k ≤ FI := by omega
    have ho := HO.out k hjF
    obtain ⟨G, hG⟩ : ∃ G, fB true k = G := ⟨_, rfl⟩
    rw [hG] at ho
    have HG := hide' hG
    clear hG hjF hkF
    go_wp2
    go_ret
    exact ⟨k, by rw [HJ.out, HG.out]; rfl, HC.out, hB.trans (hBW.mono hB.size)⟩
  · rw [decide_eq_false hn] at hne heq hor ⊢
    have HN := hide' hn
    clear hn
    have HO := hide' hor
    clear hor
    generalize sI s0 X0 Y0 = si at HM hne heq HO
    go_enter Try.func32, Try.ntmps32
    go_wp2_with fail
    have q00 : ((w.alloc (.cells #[.bool s0, .slice a0 n0 c0, .slice b0 m0 d0] 27))).cell? ⟨w.heap.size, 0, none⟩ = some (.bool s0) := by go_simp
    have q01 : ((w.alloc (.cells #[.bool s0, .slice a0 n0 c0, .slice b0 m0 d0] 27))).cell? ⟨w.heap.size, 1, none⟩ = some (.slice a0 n0 c0) := by go_simp
    have q02 : ((w.alloc (.cells #[.bool s0, .slice a0 n0 c0, .slice b0 m0 d0] 27))).cell? ⟨w.heap.size, 2, none⟩ = some (.slice b0 m0 d0) := by go_simp
    have hB : Below w.heap.size w ((w.alloc (.cells #[.bool s0, .slice a0 n0 c0, .slice b0 m0 d0] 27))) := ((Below.refl _ _).alloc (by (try simp only [World.size_alloc]); omega) _)
    have hz : ((w.alloc (.cells #[.bool s0, .slice a0 n0 c0, .slice b0 m0 d0] 27))).heap.size = w.heap.size + 1 := by simp only [World.size_alloc]
    generalize (w.alloc (.cells #[.bool s0, .slice a0 n0 c0, .slice b0 m0 d0] 27)) = W at q00 q01 q02 hB hz ⊢
    have hBW : Below W.heap.size W W := Below.refl _ _
    go_wp2_with fail
    refine (HM.out _ (sb hS0 hB hBW) (sb hT0 hB hBW)).mono ?_
    rintro e w1 ⟨rfl, b1⟩
    replace hBW := hBW.trans (b1.mono hBW.size)
    replace q00 := below_cell b1 q00
    replace q01 := below_cell b1 q01
    replace q02 := below_cell b1 q02
    have hsz1 := hBW.size
    have l100 : ((w1.alloc (.cells #[.bool false, .slice a0 n0 c0, .slice b0 m0 d0] 27))).cell? ⟨w1.heap.size, 0, none⟩ = some (.bool false) := by go_simp
    have l101 : ((w1.alloc (.cells #[.bool false, .slice a0 n0 c0, .slice b0 m0 d0] 27))).cell? ⟨w1.heap.size, 1, none⟩ = some (.slice a0 n0 c0) := by go_simp
    have l102 : ((w1.alloc (.cells #[.bool false, .slice a0 n0 c0, .slice b0 m0 d0] 27))).cell? ⟨w1.heap.size, 2, none⟩ = some (.slice b0 m0 d0) := by go_simp
    have cb1 : Below w1.heap.size w1 ((w1.alloc (.cells #[.bool false, .slice a0 n0 c0, .slice b0 m0 d0] 27))) := ((Below.refl _ _).alloc (by (try simp only [World.size_alloc]); omega) _)
    replace hBW := hBW.trans (cb1.mono hBW.size)
    replace q00 := below_cell cb1 q00
    replace q01 := below_cell cb1 q01
    replace q02 := below_cell cb1 q02
    have hL10 : Row ((w1.alloc (.cells #[.bool false, .slice a0 n0 c0, .slice b0 m0 d0] 27))) (w1.heap.size) := by
      have := row_new (w1) #[.bool false, .slice a0 n0 c0, .slice b0 m0 d0] 27
      try simp only [World.size_alloc] at this
      exact this
    go_wp2_with fail
    generalize (w1.alloc (.cells #[.bool false, .slice a0 n0 c0, .slice b0 m0 d0] 27)) = w1x at q00 q01 q02 l100 l101 l102 hL10 hBW cb1 ⊢
    clear cb1
    refine (HW.out _ (sb hS0 hB hBW) (sb hT0 hB hBW)).mono ?_
    rintro e w2 ⟨k, rfl, hCut, b2⟩
    replace hBW := hBW.trans (b2.mono hBW.size)
    replace q00 := below_cell b2 q00
    replace q01 := below_cell b2 q01
    replace q02 := below_cell b2 q02
    replace l100 := below_cell b2 l100
    replace l101 := below_cell b2 l101
    replace l102 := below_cell b2 l102
    replace hL10 := below_row b2 hL10
    have HC := hide' hCut
    have hkF := hCut.1
    clear hCut
    obtain ⟨j, hj⟩ : ∃ j : Nat, (if rst T (rN X0 Y0) (rd Y0) k = 0 then k else k + 1) = j := ⟨_, rfl⟩
    rw [hj]
    have hjF : j ≤ FI := by rw [← hj]; split <;> omega
    have HJ : Hid ((if rst T (rN X0 Y0) (rd Y0) k ≠ 0 ∧ ¬rn s0 X0 Y0 < 0 then k + 1 else k) = j) := by show _ = _; rw [← hj]; by_cases h : rst T (rN X0 Y0) (rd Y0) k = 0 <;> simp [h, HN.out]
    clear hjF hkF hj
    go_wp2
    go_ret
    exact ⟨k, by rw [HJ.out]; rfl, HC.out, hB.trans (hBW.mono hB.size)⟩
end Go.Proofs.Ytjofldgaefjapaa

namespace Go.Proofs.Ytjofldgaefjapaa
open Go.RowKit
set_option linter.unusedVariables false

theorem cmpI_mul {a b c : Nat} (h : 0 < c) : cmpI (a * c) (b * c) = cmpI a b := by
  rcases Nat.lt_trichotomy a b with g | g | g
  · rw [cmpI_lt g, cmpI_lt (Nat.mul_lt_mul_of_pos_right g h)]
  · rw [cmpI_eq g, cmpI_eq (by rw [g])]
  · rw [cmpI_gt g, cmpI_gt (Nat.mul_lt_mul_of_pos_right g h)]
theorem cmpI_rng (a b : Nat) : -1 ≤ cmpI a b ∧ cmpI a b ≤ 1 := by
  unfold cmpI; split
  · omega
  · split <;> omega
theorem cmpI_ge {a b : Nat} : 0 ≤ cmpI a b ↔ b ≤ a := by
  unfold cmpI; split
  · omega
  · split <;> omega
/-- the middle of a float and the next one -/
def mid2 (k : Nat) : Nat := fm k + fm (k + 1) * 2 ^ (fe (k + 1) - fe k)
theorem fe_next (k : Nat) : fe (k + 1) = fe k ∨ fe (k + 1) = fe k + 1 := by
  unfold fe
  have e : LD = 4503599627370496 := rfl
  rw [e]
  split <;> split <;> omega
theorem mid2_eq (k : Nat) : mid2 k * 2 ^ fe k = amt k + amt (k + 1) := by
  unfold mid2
  rw [Nat.add_mul, fm_fe, Nat.mul_assoc, ← Nat.pow_add]
  rcases fe_next k with h | h
  · rw [h, Nat.sub_self, Nat.zero_add, ← h, fm_fe]
  · rw [show fe (k + 1) - fe k + fe k = fe (k + 1) by omega, fm_fe]
theorem mid2_lt (k : Nat) : mid2 k < 27021597764222976 := by
  unfold mid2
  have h1 := fm_lt k
  have h2 := fm_lt (k + 1)
  rcases fe_next k with h | h
  · rw [h, Nat.sub_self, Nat.pow_zero, Nat.mul_one]; omega
  · rw [h, Nat.add_sub_cancel_left, Nat.pow_one]; omega
theorem mid2_pos (k : Nat) : mid2 k ≠ 0 := by
  intro h
  have := mid2_eq k
  rw [h, Nat.zero_mul] at this
  have h2 := amt_lt (show 0 < k + 1 by omega)
  rw [amt_zero] at h2
  omega
theorem two_T {z T X : Nat} (hT : T = 2 ^ z) : 2 * (X * T) = X * 2 ^ (z + 1) := by rw [hT, Nat.pow_succ]; grind
theorem mid_neg {z T X Y k y : Nat} (hT : T = 2 ^ z) (h : y + fe k = z + 1) : cmpI (X * 2 ^ y) (mid2 k * Y) = cmpI (2 * (X * T)) ((amt k + amt (k + 1)) * Y) := by
  rw [← cmpI_mul (c := 2 ^ fe k) (Nat.two_pow_pos _), Nat.mul_assoc X, ← Nat.pow_add, h, two_T hT, ← mid2_eq]
  congr 1
  grind
theorem mid_pos {z T X Y k y : Nat} (hT : T = 2 ^ z) (h : fe k = z + 1 + y) : cmpI X (mid2 k * Y * 2 ^ y) = cmpI (2 * (X * T)) ((amt k + amt (k + 1)) * Y) := by
  rw [← cmpI_mul (c := 2 ^ (z + 1)) (Nat.two_pow_pos _), two_T hT, ← mid2_eq, h]
  congr 1
  rw [Nat.pow_add 2 (z + 1) y]
  grind
theorem last_mid {z : Nat} (hz : z = 2045) : amt (FI - 1) + amt (FI - 1 + 1) = 18014398509481983 * 2 ^ z := by
  have h1 := @amt_at z (2 * LD - 1) (Or.inr (by decide)) (by decide)
  have h2 := @amt_next z (2 * LD - 1) (Or.inr (by decide)) (by decide)
  have e : z * LD + (2 * LD - 1) = FI - 1 := by subst hz; decide
  rw [e] at h1 h2
  rw [h1, h2, ← Nat.add_mul]
  rfl
/-- what rounds beyond the greatest -/
theorem over_iff {z T X Y y : Nat} (hz : z = 1074) (hT : T = 2 ^ z) (hy : y = 970) : 18014398509481983 * Y * 2 ^ y ≤ X ↔ (amt (FI - 1) + amt (FI - 1 + 1)) * Y ≤ 2 * (X * T) := by
  obtain ⟨q, hq⟩ : ∃ q : Nat, q = 2045 := ⟨_, rfl⟩
  rw [last_mid hq, two_T hT, show q = y + (z + 1) by omega, Nat.pow_add 2 y (z + 1)]
  have hp := Nat.two_pow_pos (z + 1)
  generalize 2 ^ (z + 1) = c at hp
  generalize 2 ^ y = d
  rw [show 18014398509481983 * (d * c) * Y = 18014398509481983 * Y * d * c by grind]
  exact ⟨fun h => Nat.mul_le_mul_right _ h, fun h => Nat.le_of_mul_le_mul_right h hp⟩
theorem over_cut {T X Y : Nat} (hY : 0 < Y) (h : (amt (FI - 1) + amt (FI - 1 + 1)) * Y ≤ 2 * (X * T)) : Cut T X Y (FI - 1) ∧ nup T X Y (FI - 1) = true := by
  have hl : amt (FI - 1) < amt (FI - 1 + 1) := amt_lt (by omega)
  have hl2 := Nat.mul_lt_mul_of_pos_right hl hY
  rw [Nat.add_mul] at h
  refine ⟨⟨by decide, by omega, Or.inl (by decide)⟩, ?_⟩
  unfold nup
  rw [decide_eq_true_iff]
  unfold rst
  rw [if_neg (by omega)]
  rw [← Nat.add_mul] at h
  rcases Nat.lt_or_eq_of_le h with g | g
  · rw [cmpI_gt g]; exact Or.inl rfl
  · rw [cmpI_eq g.symm]; exact Or.inr ⟨rfl, by decide⟩
theorem over_not {T X Y : Nat} (h : ¬ (amt (FI - 1) + amt (FI - 1 + 1)) * Y ≤ 2 * (X * T)) : nup T X Y (FI - 1) = false := by
  unfold nup
  rw [decide_eq_false_iff_not]
  unfold rst
  split
  · omega
  · rw [cmpI_lt (by omega)]; omega
theorem nup_is {T N D k : Nat} (h : N * T = amt k * D) : nup T N D k = false := by
  unfold nup
  rw [rst_zero.2 h]; simp

set_option maxHeartbeats 4000000 in
set_option maxRecDepth 100000 in
theorem against_neg (a0 : Option Addr) (n0 c0 X0 : Nat) (b0 : Option Addr) (m0 d0 Y0 : Nat) (am nm cm M y : Nat) (aM : Option Addr) (C : Int) (w : World) (hc0 : n0 ≤ c0) (hm0 : n0 ≤ 35184372087808) (hS0 : Seg w a0 X0 n0) (hd0 : m0 ≤ d0) (hk0 : m0 ≤ 35184372087808) (hT0 : Seg w b0 Y0 m0) (hm1 : nm ≤ 3) (hSM : Seg w aM M nm) (hy : y ≤ 4000) (hy0 : 0 < y) (hX : X0 ≠ 0) (hC : cmpI (X0 * 2 ^ y) (M * Y0) = C) :
    Calls Try.prog 55 #[Value.agg #[Value.bool false, Value.slice a0 n0 c0, Value.slice b0 m0 d0], .slice aM nm cm, .int .i64 (-(y : Int))] w fun e w' => e = .returned (.int .i64 C) ∧ Below w.heap.size w w' := by
  obtain ⟨P, hP⟩ : ∃ P, M * Y0 = P := ⟨_, rfl⟩
  have lP : ln P ≤ nm + m0 := ln_le_of_lt (by rw [← hP, Nat.pow_add]; exact Nat.mul_lt_mul_of_le_of_lt (Nat.le_of_lt hSM.1) hT0.1 (Nat.two_pow_pos 0 |> fun _ => Nat.pow_pos (by rw [BB_eq]; omega)))
  have HP := hide' (fun w' k1 k2 => rMul_is aM b0 nm cm M m0 d0 Y0 P w' (by omega) k1 k2 hP)
  rw [hP] at hC
  obtain ⟨Q, hQ⟩ : ∃ Q, X0 * 2 ^ y = Q := ⟨_, rfl⟩
  have lQ : ln Q ≤ n0 + 4000 := by rw [← hQ]; have := ln_shift (s := y) hS0.1; omega
  have HS := hide' (fun w' k => rShift_up a0 n0 c0 X0 y w' (by omega) (by omega) k hX)
  rw [hQ] at HS hC
  have HC' := fun w' p q k1 k2 => rCmp_any p q (ln Q) (ln Q) Q (ln P) (ln P) P w' (by omega) k1 (by omega) k2
  have hxl : (-(y : Int) < 0) = True := eq_true (by omega)
  clear hP hQ hX
  rw [hC] at HC'
  have HC := hide' HC'
  clear HC' hC
  go_enter Try.func55, Try.ntmps55
  go_upto_region 1 with fail
  have q00 : ((w.alloc (.cells #[.bool false, .slice a0 n0 c0, .slice b0 m0 d0] 27))).cell? ⟨w.heap.size, 0, none⟩ = some (.bool false) := by go_simp
  have q01 : ((w.alloc (.cells #[.bool false, .slice a0 n0 c0, .slice b0 m0 d0] 27))).cell? ⟨w.heap.size, 1, none⟩ = some (.slice a0 n0 c0) := by go_simp
  have q02 : ((w.alloc (.cells #[.bool false, .slice a0 n0 c0, .slice b0 m0 d0] 27))).cell? ⟨w.heap.size, 2, none⟩ = some (.slice b0 m0 d0) := by go_simp
  have hB : Below w.heap.size w ((w.alloc (.cells #[.bool false, .slice a0 n0 c0, .slice b0 m0 d0] 27))) := ((Below.refl _ _).alloc (by (try simp only [World.size_alloc]); omega) _)
  have hz : ((w.alloc (.cells #[.bool false, .slice a0 n0 c0, .slice b0 m0 d0] 27))).heap.size = w.heap.size + 1 := by simp only [World.size_alloc]
  generalize (w.alloc (.cells #[.bool false, .slice a0 n0 c0, .slice b0 m0 d0] 27)) = W at q00 q01 q02 hB hz ⊢
  have hBW : Below W.heap.size W W := Below.refl _ _
  go_wp2_with fail
  refine (HP.out _ (sb hSM hB hBW) (sb hT0 hB hBW)).mono ?_
  rintro e w1 ⟨a1, rfl, h1⟩
  have b1 := h1.below
  replace h1 := h1.back hBW
  replace hBW := hBW.trans (b1.mono hBW.size)
  replace q00 := below_cell b1 q00
  replace q01 := below_cell b1 q01
  replace q02 := below_cell b1 q02
  go_wp2_with fail
  refine (HS.out _ (sb hS0 hB hBW)).mono ?_
  rintro e w2 ⟨a2, rfl, h2⟩
  have b2 := h2.below
  replace h2 := h2.back hBW
  replace hBW := hBW.trans (b2.mono hBW.size)
  replace q00 := below_cell b2 q00
  replace q01 := below_cell b2 q01
  replace q02 := below_cell b2 q02
  replace h1 := h1.later b2
  go_wp2_with fail
  refine (HC.out _ _ _ h2.seg h1.seg).mono ?_
  rintro e w3 ⟨rfl, rfl⟩
  go_wp2
  go_ret
  exact ⟨rfl, hB.trans (hBW.mono hB.size)⟩
set_option maxHeartbeats 4000000 in
set_option maxRecDepth 100000 in
theorem against_pos (a0 : Option Addr) (n0 c0 X0 : Nat) (b0 : Option Addr) (m0 d0 Y0 : Nat) (am nm cm M y : Nat) (aM : Option Addr) (C : Int) (w : World) (hc0 : n0 ≤ c0) (hm0 : n0 ≤ 35184372087808) (hS0 : Seg w a0 X0 n0) (hd0 : m0 ≤ d0) (hk0 : m0 ≤ 35184372087808) (hT0 : Seg w b0 Y0 m0) (hm1 : nm ≤ 3) (hSM : Seg w aM M nm) (hy : y ≤ 4000) (hM : M * Y0 ≠ 0) (hC : cmpI X0 (M * Y0 * 2 ^ y) = C) :
    Calls Try.prog 55 #[Value.agg #[Value.bool false, Value.slice a0 n0 c0, Value.slice b0 m0 d0], .slice aM nm cm, .int .i64 (y : Int)] w fun e w' => e = .returned (.int .i64 C) ∧ Below w.heap.size w w' := by
  obtain ⟨P, hP⟩ : ∃ P, M * Y0 = P := ⟨_, rfl⟩
  have lP : ln P ≤ nm + m0 := ln_le_of_lt (by rw [← hP, Nat.pow_add]; exact Nat.mul_lt_mul_of_le_of_lt (Nat.le_of_lt hSM.1) hT0.1 (Nat.two_pow_pos 0 |> fun _ => Nat.pow_pos (by rw [BB_eq]; omega)))
  have HP := hide' (fun w' k1 k2 => rMul_is aM b0 nm cm M m0 d0 Y0 P w' (by omega) k1 k2 hP)
  rw [hP] at hC hM
  obtain ⟨Q, hQ⟩ : ∃ Q, P * 2 ^ y = Q := ⟨_, rfl⟩
  have lQ : ln Q ≤ ln P + 4000 := by rw [← hQ]; have := ln_shift (s := y) (ln_lt P); omega
  have HS := hide' (fun w' p k => rShift_up p (ln P) (ln P) P y w' (by omega) (by omega) k hM)
  rw [hQ] at HS hC
  have HC' := fun w' q k1 k2 => rCmp_any a0 q n0 c0 X0 (ln Q) (ln Q) Q w' (by omega) k1 (by omega) k2
  have hxl : ((y : Int) < 0) = False := eq_false (by omega)
  clear hP hQ hM
  rw [hC] at HC'
  have HC := hide' HC'
  clear HC' hC
  go_enter Try.func55, Try.ntmps55
  go_upto_region 1 with fail
  have q00 : ((w.alloc (.cells #[.bool false, .slice a0 n0 c0, .slice b0 m0 d0] 27))).cell? ⟨w.heap.size, 0, none⟩ = some (.bool false) := by go_simp
  have q01 : ((w.alloc (.cells #[.bool false, .slice a0 n0 c0, .slice b0 m0 d0] 27))).cell? ⟨w.heap.size, 1, none⟩ = some (.slice a0 n0 c0) := by go_simp
  have q02 : ((w.alloc (.cells #[.bool false, .slice a0 n0 c0, .slice b0 m0 d0] 27))).cell? ⟨w.heap.size, 2, none⟩ = some (.slice b0 m0 d0) := by go_simp
  have hB : Below w.heap.size w ((w.alloc (.cells #[.bool false, .slice a0 n0 c0, .slice b0 m0 d0] 27))) := ((Below.refl _ _).alloc (by (try simp only [World.size_alloc]); omega) _)
  have hz : ((w.alloc (.cells #[.bool false, .slice a0 n0 c0, .slice b0 m0 d0] 27))).heap.size = w.heap.size + 1 := by simp only [World.size_alloc]
  generalize (w.alloc (.cells #[.bool false, .slice a0 n0 c0, .slice b0 m0 d0] 27)) = W at q00 q01 q02 hB hz ⊢
  have hBW : Below W.heap.size W W := Below.refl _ _
  go_wp2_with fail
  refine (HP.out _ (sb hSM hB hBW) (sb hT0 hB hBW)).mono ?_
  rintro e w1 ⟨a1, rfl, h1⟩
  have b1 := h1.below
  replace h1 := h1.back hBW
  replace hBW := hBW.trans (b1.mono hBW.size)
  replace q00 := below_cell b1 q00
  replace q01 := below_cell b1 q01
  replace q02 := below_cell b1 q02
  go_wp2_with fail
  refine (HS.out _ _ h1.seg).mono ?_
  rintro e w2 ⟨a2, rfl, h2⟩
  have b2 := h2.below
  replace h2 := h2.back hBW
  replace hBW := hBW.trans (b2.mono hBW.size)
  replace q00 := below_cell b2 q00
  replace q01 := below_cell b2 q01
  replace q02 := below_cell b2 q02
  replace h1 := h1.later b2
  go_wp2_with fail
  refine (HC.out _ _ (sb hS0 hB hBW) h2.seg).mono ?_
  rintro e w3 ⟨rfl, rfl⟩
  go_wp2
  go_ret
  exact ⟨rfl, hB.trans (hBW.mono hB.size)⟩
end Go.Proofs.Ytjofldgaefjapaa

namespace Go.Proofs.Ytjofldgaefjapaa
open Go.RowKit
set_option linter.unusedVariables false

theorem nearB_nought {T : Nat} {s : Bool} {X Y : Nat} (h : Y = 0) : nearB T s X Y 0 = 0 := by
  have h1 := rn_nought (s := s) (X := X) (Y := Y) (Or.inr h)
  have h2 := rN_nought (X := X) (Y := Y) (Or.inr h)
  unfold nearB nup
  rw [h1, h2, rst_nought]; rfl
theorem nup_no {T X Y k : Nat} (h : X * T = amt k * Y ∨ k = FI - 1) (hno : nup T X Y (FI - 1) = false) : nup T X Y k = false := by
  rcases h with h | h
  · exact nup_is h
  · rw [h]; exact hno
theorem cut_ne {T X Y k : Nat} (h : Cut T X Y k) (hn : ¬ X * T = amt k * Y) : X ≠ 0 := by
  rintro rfl
  have := h.2.1
  rw [Nat.zero_mul] at this hn
  omega
theorem parts_b (k : Nat) (w : World) (hk : k < 9223372036854775808) :
    Calls Try.prog 58 #[.int .u64 (k : Int)] w fun e w' => e = .returned (.tuple #[.int .u64 (fm k : Nat), .int .i64 ((fe k : Nat) - 1074 : Int)]) ∧ w = w' := parts_any k w hk

set_option maxHeartbeats 4000000 in
set_option maxRecDepth 100000 in
theorem vnearB_is (s0 : Bool) (a0 : Option Addr) (n0 c0 X0 : Nat) (b0 : Option Addr) (m0 d0 Y0 : Nat) (z T : Nat) (w : World) (hc0 : n0 ≤ c0) (hm0 : n0 ≤ 35184372087808) (hS0 : Seg w a0 X0 n0) (hd0 : m0 ≤ d0) (hk0 : m0 ≤ 35184372087808) (hT0 : Seg w b0 Y0 m0) (hz : z = 1074) (hT : T = 2 ^ z) :
    Calls Try.prog 30 #[Value.agg #[Value.bool s0, Value.slice a0 n0 c0, Value.slice b0 m0 d0]] w fun e w' => ∃ k, e = .returned (.int .u64 ((nearB T s0 X0 Y0 k : Nat) : Int)) ∧ Cut T (rN X0 Y0) (rd Y0) k ∧ Below w.heap.size w w' := by
  have HM := hide' (fun w' k1 k2 => amount_is s0 a0 n0 c0 X0 b0 m0 d0 Y0 w' hc0 hm0 k1 hd0 hk0 k2)
  have HB := hide' (fun w' k1 k2 => below_is a0 n0 c0 X0 b0 m0 d0 Y0 z T w' hc0 hm0 k1 hd0 hk0 k2 hz hT)
  by_cases hY : Y0 = 0
  · have HA : Hid (Ending.returned (.int .u64 0) = .returned (.int .u64 ((nearB T s0 X0 Y0 0 : Nat) : Int)) ∧ Cut T (rN X0 Y0) (rd Y0) 0) := ⟨by rw [nearB_nought hY]; rfl, by rw [rN_nought (Or.inr hY)]; exact Cut.nought T (rd_pos _)⟩
    have hby : bl Y0 = 0 := by rw [hY]; exact bl_zero
    clear hY hz hT HB
    generalize sI s0 X0 Y0 = si at HM
    go_enter Try.func30, Try.ntmps30
    go_wp2_with fail
    have q00 : ((w.alloc (.cells #[.bool s0, .slice a0 n0 c0, .slice b0 m0 d0] 27))).cell? ⟨w.heap.size, 0, none⟩ = some (.bool s0) := by go_simp
    have q01 : ((w.alloc (.cells #[.bool s0, .slice a0 n0 c0, .slice b0 m0 d0] 27))).cell? ⟨w.heap.size, 1, none⟩ = some (.slice a0 n0 c0) := by go_simp
    have q02 : ((w.alloc (.cells #[.bool s0, .slice a0 n0 c0, .slice b0 m0 d0] 27))).cell? ⟨w.heap.size, 2, none⟩ = some (.slice b0 m0 d0) := by go_simp
    have hB : Below w.heap.size w ((w.alloc (.cells #[.bool s0, .slice a0 n0 c0, .slice b0 m0 d0] 27))) := ((Below.refl _ _).alloc (by (try simp only [World.size_alloc]); omega) _)
    have hz : ((w.alloc (.cells #[.bool s0, .slice a0 n0 c0, .slice b0 m0 d0] 27))).heap.size = w.heap.size + 1 := by simp only [World.size_alloc]
    generalize (w.alloc (.cells #[.bool s0, .slice a0 n0 c0, .slice b0 m0 d0] 27)) = W at q00 q01 q02 hB hz ⊢
    have hBW : Below W.heap.size W W := Below.refl _ _
    go_wp2_with fail
    refine (HM.out _ (sb hS0 hB hBW) (sb hT0 hB hBW)).mono ?_
    rintro e w1 ⟨rfl, b1⟩
    replace hBW := hBW.trans (b1.mono hBW.size)
    replace q00 := below_cell b1 q00
    replace q01 := below_cell b1 q01
    replace q02 := below_cell b1 q02
    have hsz1 := hBW.size
    have l100 : ((w1.alloc (.cells #[.bool false, .slice a0 n0 c0, .slice b0 m0 d0] 27))).cell? ⟨w1.heap.size, 0, none⟩ = some (.bool false) := by go_simp
    have l101 : ((w1.alloc (.cells #[.bool false, .slice a0 n0 c0, .slice b0 m0 d0] 27))).cell? ⟨w1.heap.size, 1, none⟩ = some (.slice a0 n0 c0) := by go_simp
    have l102 : ((w1.alloc (.cells #[.bool false, .slice a0 n0 c0, .slice b0 m0 d0] 27))).cell? ⟨w1.heap.size, 2, none⟩ = some (.slice b0 m0 d0) := by go_simp
    have cb1 : Below w1.heap.size w1 ((w1.alloc (.cells #[.bool false, .slice a0 n0 c0, .slice b0 m0 d0] 27))) := ((Below.refl _ _).alloc (by (try simp only [World.size_alloc]); omega) _)
    replace hBW := hBW.trans (cb1.mono hBW.size)
    replace q00 := below_cell cb1 q00
    replace q01 := below_cell cb1 q01
    replace q02 := below_cell cb1 q02
    have hL10 : Row ((w1.alloc (.cells #[.bool false, .slice a0 n0 c0, .slice b0 m0 d0] 27))) (w1.heap.size) := by
      have := row_new (w1) #[.bool false, .slice a0 n0 c0, .slice b0 m0 d0] 27
      try simp only [World.size_alloc] at this
      exact this
    go_wp2_with fail
    generalize (w1.alloc (.cells #[.bool false, .slice a0 n0 c0, .slice b0 m0 d0] 27)) = w1x at q00 q01 q02 l100 l101 l102 hL10 hBW cb1 ⊢
    clear cb1
    refine (rBits_any _ _ _ Y0 _ (by omega) (sb hT0 hB hBW)).mono ?_
    rintro e w2 ⟨rfl, rfl⟩
    go_wp2
    go_ret
    exact ⟨0, HA.out.1, HA.out.2, hB.trans (hBW.mono hB.size)⟩
  · rw [rN_of hY, rd_of hY] at HB
    rw [rN_of hY, rd_of hY]
    have hnear : ∀ k, nearB T s0 X0 Y0 k = fB (decide (rn s0 X0 Y0 < 0)) (if nup T X0 Y0 k then k + 1 else k) := fun k => by unfold nearB; rw [rN_of hY, rd_of hY]
    simp only [hnear]
    clear hnear
    have hby : (((bl Y0 : Nat) : Int) == 0) = false := by rw [beq_eq_false_iff_ne, bl_pos hY]; omega
    have hor := fun k h => @or_fB s0 X0 Y0 k h
    generalize decide (rn s0 X0 Y0 < 0) = sx at hor ⊢
    have HO := hide' hor
    clear hor
    generalize sI s0 X0 Y0 = si at HM HO
    have HY := hide' hY
    have HZ := hide' hz
    have HT := hide' hT
    clear hY hz hT
    obtain ⟨y1, hy1⟩ : ∃ y : Nat, y = 970 := ⟨_, rfl⟩
    have hov := over_iff (X := X0) (Y := Y0) HZ.out HT.out hy1
    obtain ⟨C1, hC1⟩ : ∃ C, cmpI X0 (18014398509481983 * Y0 * 2 ^ y1) = C := ⟨_, rfl⟩
    have hge : 0 ≤ C1 ↔ (amt (FI - 1) + amt (FI - 1 + 1)) * Y0 ≤ 2 * (X0 * T) := by rw [← hov, ← hC1]; exact cmpI_ge
    have hCr := cmpI_rng X0 (18014398509481983 * Y0 * 2 ^ y1)
    rw [hC1] at hCr
    have HG' := fun w' p k1 k2 k3 => against_pos a0 n0 c0 X0 b0 m0 d0 Y0 0 (ln 18014398509481983) (ln 18014398509481983) 18014398509481983 y1 p C1 w' hc0 hm0 k1 hd0 hk0 k2 (ln_le_of_lt (by rw [BB_eq]; omega)) k3 (by omega) (Nat.mul_ne_zero (by omega) HY.out) hC1
    have hy1i : (y1 : Int) = 970 := by omega
    rw [hy1i] at HG'
    have HG := hide' HG'
    have HOf := hide' (fun w' => rOf_any 18014398509481983 w' (by omega))
    clear HG' hC1 hov hy1 hy1i y1
    have HGE := hide' hge
    clear hge
    obtain ⟨M1, hM1⟩ : ∃ M : Nat, 18014398509481983 = M := ⟨_, rfl⟩
    have hOf2 : ∀ w', Calls Try.prog 56 #[.int .u64 18014398509481983] w' fun e w'' => ∃ ao, e = .returned (.slice ao (ln M1) (ln M1)) ∧ New w' w'' ao M1 (ln M1) := by rw [← hM1]; exact HOf.out
    rw [hM1] at HG
    clear HOf
    have HOf := hide' hOf2
    clear hOf2 hM1
    go_enter Try.func30, Try.ntmps30
    go_wp2_with fail
    have q00 : ((w.alloc (.cells #[.bool s0, .slice a0 n0 c0, .slice b0 m0 d0] 27))).cell? ⟨w.heap.size, 0, none⟩ = some (.bool s0) := by go_simp
    have q01 : ((w.alloc (.cells #[.bool s0, .slice a0 n0 c0, .slice b0 m0 d0] 27))).cell? ⟨w.heap.size, 1, none⟩ = some (.slice a0 n0 c0) := by go_simp
    have q02 : ((w.alloc (.cells #[.bool s0, .slice a0 n0 c0, .slice b0 m0 d0] 27))).cell? ⟨w.heap.size, 2, none⟩ = some (.slice b0 m0 d0) := by go_simp
    have hB : Below w.heap.size w ((w.alloc (.cells #[.bool s0, .slice a0 n0 c0, .slice b0 m0 d0] 27))) := ((Below.refl _ _).alloc (by (try simp only [World.size_alloc]); omega) _)
    have hz : ((w.alloc (.cells #[.bool s0, .slice a0 n0 c0, .slice b0 m0 d0] 27))).heap.size = w.heap.size + 1 := by simp only [World.size_alloc]
    generalize (w.alloc (.cells #[.bool s0, .slice a0 n0 c0, .slice b0 m0 d0] 27)) = W at q00 q01 q02 hB hz ⊢
    have hBW : Below W.heap.size W W := Below.refl _ _
    go_wp2_with fail
    refine (HM.out _ (sb hS0 hB hBW) (sb hT0 hB hBW)).mono ?_
    rintro e w1 ⟨rfl, b1⟩
    replace hBW := hBW.trans (b1.mono hBW.size)
    replace q00 := below_cell b1 q00
    replace q01 := below_cell b1 q01
    replace q02 := below_cell b1 q02
    have hsz1 := hBW.size
    have l100 : ((w1.alloc (.cells #[.bool false, .slice a0 n0 c0, .slice b0 m0 d0] 27))).cell? ⟨w1.heap.size, 0, none⟩ = some (.bool false) := by go_simp
    have l101 : ((w1.alloc (.cells #[.bool false, .slice a0 n0 c0, .slice b0 m0 d0] 27))).cell? ⟨w1.heap.size, 1, none⟩ = some (.slice a0 n0 c0) := by go_simp
    have l102 : ((w1.alloc (.cells #[.bool false, .slice a0 n0 c0, .slice b0 m0 d0] 27))).cell? ⟨w1.heap.size, 2, none⟩ = some (.slice b0 m0 d0) := by go_simp
    have cb1 : Below w1.heap.size w1 ((w1.alloc (.cells #[.bool false, .slice a0 n0 c0, .slice b0 m0 d0] 27))) := ((Below.refl _ _).alloc (by (try simp only [World.size_alloc]); omega) _)
    replace hBW := hBW.trans (cb1.mono hBW.size)
    replace q00 := below_cell cb1 q00
    replace q01 := below_cell cb1 q01
    replace q02 := below_cell cb1 q02
    have hL10 : Row ((w1.alloc (.cells #[.bool false, .slice a0 n0 c0, .slice b0 m0 d0] 27))) (w1.heap.size) := by
      have := row_new (w1) #[.bool false, .slice a0 n0 c0, .slice b0 m0 d0] 27
      try simp only [World.size_alloc] at this
      exact this
    go_wp2_with fail
    generalize (w1.alloc (.cells #[.bool false, .slice a0 n0 c0, .slice b0 m0 d0] 27)) = w1x at q00 q01 q02 l100 l101 l102 hL10 hBW cb1 ⊢
    clear cb1
    refine (rBits_any _ _ _ Y0 _ (by omega) (sb hT0 hB hBW)).mono ?_
    rintro e w2 ⟨rfl, rfl⟩
    go_wp2_with fail
    replace hBW := hBW.drew
    first
      | go_region_held3 (fun w' => w'.cell? ⟨w.heap.size, 0, none⟩ = some (.bool s0) ∧ w'.cell? ⟨w.heap.size, 1, none⟩ = some (.slice a0 n0 c0) ∧ w'.cell? ⟨w.heap.size, 2, none⟩ = some (.slice b0 m0 d0) ∧ w'.cell? ⟨w1.heap.size, 0, none⟩ = some (.bool false) ∧ w'.cell? ⟨w1.heap.size, 1, none⟩ = some (.slice a0 n0 c0) ∧ w'.cell? ⟨w1.heap.size, 2, none⟩ = some (.slice b0 m0 d0) ∧ Below w.heap.size w w')
          (first | exact ⟨q00, q01, q02, l100, l101, l102, hB.trans (hBW.mono hB.size)⟩ | exact kp6 b3 (by assumption) | exact kp6 b4 (by assumption) | exact kp6 (below_alloc _) (by assumption))
          (first
            | (go_at_call 56; (fail_if_success clear b3); refine (HOf.out _).mono ?_; rintro e w3 ⟨a3, rfl, h3⟩; have b3 := h3.below; replace h3 := h3.back hBW; replace hBW := hBW.trans (b3.mono hBW.size); replace q00 := below_cell b3 q00; replace q01 := below_cell b3 q01; replace q02 := below_cell b3 q02; replace l100 := below_cell b3 l100; replace l101 := below_cell b3 l101; replace l102 := below_cell b3 l102; replace hL10 := below_row b3 hL10)
            | (go_at_call 55; go_at_call_of 55 (Value.agg #[Value.bool false, Value.slice a0 n0 c0, Value.slice b0 m0 d0]); refine (HG.out _ _ (sb hS0 hB hBW) (sb hT0 hB hBW) h3.seg).mono ?_; rintro e w4 ⟨rfl, b4⟩; replace hBW := hBW.trans (b4.mono hBW.size); replace q00 := below_cell b4 q00; replace q01 := below_cell b4 q01; replace q02 := below_cell b4 q02; replace l100 := below_cell b4 l100; replace l101 := below_cell b4 l101; replace l102 := below_cell b4 l102; replace hL10 := below_row b4 hL10; replace h3 := h3.later b4))
      | fail
    by_cases hc : 0 ≤ C1
    · obtain ⟨hcut, hnu⟩ := over_cut (by have := HY.out; omega) (HGE.out.1 hc)
      have ho := HO.out FI (Nat.le_refl _)
      have hF : ((FI : Nat) : Int) = 9218868437227405312 := rfl
      rw [hF] at ho
      have HA : Hid (∃ k, Ending.returned (.int .u64 ((fB sx FI : Nat) : Int)) = .returned (.int .u64 ((fB sx (if nup T X0 Y0 k then k + 1 else k) : Nat) : Int)) ∧ Cut T X0 Y0 k) := ⟨FI - 1, by rw [hnu, if_pos rfl]; rfl, hcut⟩
      generalize fB sx FI = G at ho HA
      clear hcut hnu hF
      go_wp2
      go_ret
      obtain ⟨k9, hk9, hc9⟩ := HA.out
      exact ⟨k9, hk9, hc9, hB.trans (hBW.mono hB.size)⟩
    · have hno := hide' (over_not (fun h => hc (HGE.out.2 h)))
      clear HGE
      go_wp2_with fail
      refine (HB.out _ (sb hS0 hB hBW) (sb hT0 hB hBW)).mono ?_
      rintro e w5 ⟨k, rfl, hCut, bb5⟩
      have b5 := bb5
      replace hBW := hBW.trans (b5.mono hBW.size)
      replace q00 := below_cell b5 q00
      replace q01 := below_cell b5 q01
      replace q02 := below_cell b5 q02
      replace l100 := below_cell b5 l100
      replace l101 := below_cell b5 l101
      replace l102 := below_cell b5 l102
      replace hL10 := below_row b5 hL10
      replace h3 := h3.later b5
      have hkF : k < 9218868437227405312 := hCut.1
      by_cases his : X0 * T = amt k * Y0 ∨ k = FI - 1
      · have hnu := nup_no his hno.out
        have ho := HO.out k (by rw [FIv]; omega)
        have HA : Hid (∃ j, Ending.returned (.int .u64 ((fB sx k : Nat) : Int)) = .returned (.int .u64 ((fB sx (if nup T X0 Y0 j then j + 1 else j) : Nat) : Int)) ∧ Cut T X0 Y0 j) := ⟨k, by rw [hnu, if_neg (by decide)], hCut⟩
        generalize fB sx k = G at ho HA
        clear hCut hnu
        by_cases h1 : X0 * T = amt k * Y0
        · have hd : decide (X0 * T = amt k * Y0) = true := decide_eq_true h1
          clear h1 his
          go_wp2
          go_ret
          obtain ⟨k9, hk9, hc9⟩ := HA.out
          exact ⟨k9, hk9, hc9, hB.trans (hBW.mono hB.size)⟩
        · have hd : decide (X0 * T = amt k * Y0) = false := decide_eq_false h1
          have he : ((k : Int) == 9218868437227405311) = true := by rw [beq_iff_eq]; have := his.resolve_left h1; rw [FIv] at this; omega
          clear h1 his
          go_wp2
          go_ret
          obtain ⟨k9, hk9, hc9⟩ := HA.out
          exact ⟨k9, hk9, hc9, hB.trans (hBW.mono hB.size)⟩
      · have hd : decide (X0 * T = amt k * Y0) = false := decide_eq_false (fun h => his (Or.inl h))
        have hkn : k ≠ 9218868437227405311 := fun h => his (Or.inr (by rw [FIv]; exact h))
        have he : ((k : Int) == 9218868437227405311) = false := by rw [beq_eq_false_iff_ne]; omega
        have HC := hide' hCut
        have HIS := hide' his
        clear hCut his hno HB HG HOf
        go_wp2_with fail
        refine (parts_any k _ (by omega)).mono ?_
        rintro e w6 ⟨rfl, rfl⟩
        have HP2 := hide' (fun w' => parts_any (k + 1) w' (by omega))
        have hk1 : ((k + 1 : Nat) : Int) = (k : Int) + 1 := by omega
        rw [hk1] at HP2
        clear hk1
        go_wp2_with fail
        refine (HP2.out _).mono ?_
        rintro e w7 ⟨rfl, rfl⟩
        have hM := mid2_lt k
        have hM0 := mid2_pos k
        have h1 := fm_lt k
        have h2 := fm_lt (k + 1)
        have h3e := fe_lt (k := k) (by rw [FIv]; omega)
        rcases fe_next k with hfe | hfe
        · have hMe : mid2 k = fm k + fm (k + 1) * 1 := by unfold mid2; rw [hfe]; congr 2; rw [Nat.sub_self, Nat.pow_zero]
          rw [hfe]
          have MN := @mid_neg z T X0 Y0 k
          have MP := @mid_pos z T X0 Y0 k
          have hrs : rst T X0 Y0 k = 2 + cmpI (2 * (X0 * T)) ((amt k + amt (k + 1)) * Y0) := if_neg (fun h => HIS.out (Or.inl h))
          generalize fm k = m1 at hMe h1 ⊢
          generalize fm (k + 1) = m2 at hMe h2 ⊢
          generalize fe k = e1 at MN MP h3e ⊢
          generalize mid2 k = M at hMe hM hM0 MN MP
          clear hfe
          have hfm : IntKind.u64.wrap ((m1 : Int) + IntKind.u64.wrap ((m2 : Int) * 2 ^ min (IntKind.u64.wrap (IntKind.i64.wrap 0)).toNat 64)) = ((M : Nat) : Int) := by
            have e0 : min (IntKind.u64.wrap (IntKind.i64.wrap 0)).toNat 64 = 0 := by rw [IntKind.wrap_i64, IntKind.wrap_u64]; omega
            rw [e0, hMe, IntKind.wrap_u64, IntKind.wrap_u64]; omega
          have hX0 : X0 ≠ 0 := cut_ne HC.out (fun h => HIS.out (Or.inl h))
          obtain ⟨C, hCd⟩ : ∃ C, cmpI (2 * (X0 * T)) ((amt k + amt (k + 1)) * Y0) = C := ⟨_, rfl⟩
          have hCr2 := cmpI_rng (2 * (X0 * T)) ((amt k + amt (k + 1)) * Y0)
          rw [hCd] at MN MP hrs hCr2
          clear hCd
          have hnu : nup T X0 Y0 k = decide (2 + C = 3 ∨ 2 + C = 2 ∧ k % 2 = 1) := by unfold nup; rw [hrs]
          have lM : ln M ≤ 3 := ln_le_of_lt (by rw [BB_eq]; omega)
          have HOf2 := hide' (fun w' => rOf_any M w' (by omega))
          have HFM := hide' hfm
          have HNU := hide' hnu
          clear hfm hnu hrs hMe h1 h2
          by_cases hsg : e1 < 1075
          · have HG2' := fun w' p k1 k2 k3 => against_neg a0 n0 c0 X0 b0 m0 d0 Y0 0 (ln M) (ln M) M (1075 - e1) p C w' hc0 hm0 k1 hd0 hk0 k2 lM k3 (by omega) (by omega) hX0 (MN HT.out (by have := HZ.out; omega))
            have hx : IntKind.i64.wrap ((e1 : Int) - 1074 - 1) = -((1075 - e1 : Nat) : Int) := by rw [IntKind.wrap_i64]; omega
            rw [← hx] at HG2'
            have HG2 := hide' HG2'
            clear HG2' hx MN MP hsg hX0 hM0
            go_wp2_with fail
            replace hBW := hBW.drew
            replace h3 := h3.drew
            first
              | go_region_held3 (fun w' => w'.cell? ⟨w.heap.size, 0, none⟩ = some (.bool s0) ∧ w'.cell? ⟨w.heap.size, 1, none⟩ = some (.slice a0 n0 c0) ∧ w'.cell? ⟨w.heap.size, 2, none⟩ = some (.slice b0 m0 d0) ∧ w'.cell? ⟨w1.heap.size, 0, none⟩ = some (.bool false) ∧ w'.cell? ⟨w1.heap.size, 1, none⟩ = some (.slice a0 n0 c0) ∧ w'.cell? ⟨w1.heap.size, 2, none⟩ = some (.slice b0 m0 d0) ∧ Below w.heap.size w w')
                  (first | exact ⟨q00, q01, q02, l100, l101, l102, hB.trans (hBW.mono hB.size)⟩ | exact kp6 b8 (by assumption) | exact kp6 b9 (by assumption) | exact kp6 (below_alloc _) (by assumption))
                  (first
                    | (go_at_call 56; (fail_if_success clear b8); rw [HFM.out]; refine (HOf2.out _).mono ?_; rintro e w8 ⟨a8, rfl, h8⟩; have b8 := h8.below; replace h8 := h8.back hBW; replace hBW := hBW.trans (b8.mono hBW.size); replace q00 := below_cell b8 q00; replace q01 := below_cell b8 q01; replace q02 := below_cell b8 q02; replace l100 := below_cell b8 l100; replace l101 := below_cell b8 l101; replace l102 := below_cell b8 l102; replace hL10 := below_row b8 hL10; replace h3 := h3.later b8)
                    | (go_at_call 55; go_at_call_of 55 (Value.agg #[Value.bool false, Value.slice a0 n0 c0, Value.slice b0 m0 d0]); refine (HG2.out _ _ (sb hS0 hB hBW) (sb hT0 hB hBW) h8.seg).mono ?_; rintro e w9 ⟨rfl, b9⟩; replace hBW := hBW.trans (b9.mono hBW.size); replace q00 := below_cell b9 q00; replace q01 := below_cell b9 q01; replace q02 := below_cell b9 q02; replace l100 := below_cell b9 l100; replace l101 := below_cell b9 l101; replace l102 := below_cell b9 l102; replace hL10 := below_row b9 hL10; replace h3 := h3.later b9; replace h8 := h8.later b9))
              | fail
            clear HG2 HOf2 HFM
            obtain rfl | rfl | rfl : C = 1 ∨ C = 0 ∨ C = -1 := by omega
            · have hpar : True := trivial
              have ho := HO.out (k + 1) (by rw [FIv]; omega)
              have hk1 : ((k + 1 : Nat) : Int) = (k : Int) + 1 := by omega
              rw [hk1] at ho
              have HA : Hid (∃ j, Ending.returned (.int .u64 ((fB sx (k + 1) : Nat) : Int)) = .returned (.int .u64 ((fB sx (if nup T X0 Y0 j then j + 1 else j) : Nat) : Int)) ∧ Cut T X0 Y0 j) := ⟨k, by rw [HNU.out]; simp, HC.out⟩
              generalize fB sx (k + 1) = G at ho HA
              clear hpar hk1
              go_wp2
              go_ret
              obtain ⟨k9, hk9, hc9⟩ := HA.out
              exact ⟨k9, hk9, hc9, hB.trans (hBW.mono hB.size)⟩
            · by_cases hpar : k % 2 = 1
              · have hodd : ((k : Int) % 2 == 1) = true := by rw [beq_iff_eq]; omega
                have ho := HO.out (k + 1) (by rw [FIv]; omega)
                have hk1 : ((k + 1 : Nat) : Int) = (k : Int) + 1 := by omega
                rw [hk1] at ho
                have HA : Hid (∃ j, Ending.returned (.int .u64 ((fB sx (k + 1) : Nat) : Int)) = .returned (.int .u64 ((fB sx (if nup T X0 Y0 j then j + 1 else j) : Nat) : Int)) ∧ Cut T X0 Y0 j) := ⟨k, by rw [HNU.out]; simp [hpar], HC.out⟩
                generalize fB sx (k + 1) = G at ho HA
                clear hpar hk1
                go_wp2
                go_ret
                obtain ⟨k9, hk9, hc9⟩ := HA.out
                exact ⟨k9, hk9, hc9, hB.trans (hBW.mono hB.size)⟩
              · have hodd : ((k : Int) % 2 == 1) = false := by rw [beq_eq_false_iff_ne]; omega
                have ho := HO.out k (by rw [FIv]; omega)
                have HA : Hid (∃ j, Ending.returned (.int .u64 ((fB sx k : Nat) : Int)) = .returned (.int .u64 ((fB sx (if nup T X0 Y0 j then j + 1 else j) : Nat) : Int)) ∧ Cut T X0 Y0 j) := ⟨k, by rw [HNU.out]; simp [hpar], HC.out⟩
                generalize fB sx k = G at ho HA
                clear hpar
                go_wp2
                go_ret
                obtain ⟨k9, hk9, hc9⟩ := HA.out
                exact ⟨k9, hk9, hc9, hB.trans (hBW.mono hB.size)⟩
            · have hpar : True := trivial
              have ho := HO.out k (by rw [FIv]; omega)
              have HA : Hid (∃ j, Ending.returned (.int .u64 ((fB sx k : Nat) : Int)) = .returned (.int .u64 ((fB sx (if nup T X0 Y0 j then j + 1 else j) : Nat) : Int)) ∧ Cut T X0 Y0 j) := ⟨k, by rw [HNU.out]; simp, HC.out⟩
              generalize fB sx k = G at ho HA
              clear hpar
              go_wp2
              go_ret
              obtain ⟨k9, hk9, hc9⟩ := HA.out
              exact ⟨k9, hk9, hc9, hB.trans (hBW.mono hB.size)⟩
          · have HG2' := fun w' p k1 k2 k3 => against_pos a0 n0 c0 X0 b0 m0 d0 Y0 0 (ln M) (ln M) M (e1 - 1075) p C w' hc0 hm0 k1 hd0 hk0 k2 lM k3 (by omega) (Nat.mul_ne_zero hM0 HY.out) (MP HT.out (by have := HZ.out; omega))
            have hx : IntKind.i64.wrap ((e1 : Int) - 1074 - 1) = ((e1 - 1075 : Nat) : Int) := by rw [IntKind.wrap_i64]; omega
            rw [← hx] at HG2'
            have HG2 := hide' HG2'
            clear HG2' hx MN MP hsg hX0 hM0
            go_wp2_with fail
            replace hBW := hBW.drew
            replace h3 := h3.drew
            first
              | go_region_held3 (fun w' => w'.cell? ⟨w.heap.size, 0, none⟩ = some (.bool s0) ∧ w'.cell? ⟨w.heap.size, 1, none⟩ = some (.slice a0 n0 c0) ∧ w'.cell? ⟨w.heap.size, 2, none⟩ = some (.slice b0 m0 d0) ∧ w'.cell? ⟨w1.heap.size, 0, none⟩ = some (.bool false) ∧ w'.cell? ⟨w1.heap.size, 1, none⟩ = some (.slice a0 n0 c0) ∧ w'.cell? ⟨w1.heap.size, 2, none⟩ = some (.slice b0 m0 d0) ∧ Below w.heap.size w w')
                  (first | exact ⟨q00, q01, q02, l100, l101, l102, hB.trans (hBW.mono hB.size)⟩ | exact kp6 b8 (by assumption) | exact kp6 b9 (by assumption) | exact kp6 (below_alloc _) (by assumption))
                  (first
                    | (go_at_call 56; (fail_if_success clear b8); rw [HFM.out]; refine (HOf2.out _).mono ?_; rintro e w8 ⟨a8, rfl, h8⟩; have b8 := h8.below; replace h8 := h8.back hBW; replace hBW := hBW.trans (b8.mono hBW.size); replace q00 := below_cell b8 q00; replace q01 := below_cell b8 q01; replace q02 := below_cell b8 q02; replace l100 := below_cell b8 l100; replace l101 := below_cell b8 l101; replace l102 := below_cell b8 l102; replace hL10 := below_row b8 hL10; replace h3 := h3.later b8)
                    | (go_at_call 55; go_at_call_of 55 (Value.agg #[Value.bool false, Value.slice a0 n0 c0, Value.slice b0 m0 d0]); refine (HG2.out _ _ (sb hS0 hB hBW) (sb hT0 hB hBW) h8.seg).mono ?_; rintro e w9 ⟨rfl, b9⟩; replace hBW := hBW.trans (b9.mono hBW.size); replace q00 := below_cell b9 q00; replace q01 := below_cell b9 q01; replace q02 := below_cell b9 q02; replace l100 := below_cell b9 l100; replace l101 := below_cell b9 l101; replace l102 := below_cell b9 l102; replace hL10 := below_row b9 hL10; replace h3 := h3.later b9; replace h8 := h8.later b9))
              | fail
            clear HG2 HOf2 HFM
            obtain rfl | rfl | rfl : C = 1 ∨ C = 0 ∨ C = -1 := by omega
            · have hpar : True := trivial
              have ho := HO.out (k + 1) (by rw [FIv]; omega)
              have hk1 : ((k + 1 : Nat) : Int) = (k : Int) + 1 := by omega
              rw [hk1] at ho
              have HA : Hid (∃ j, Ending.returned (.int .u64 ((fB sx (k + 1) : Nat) : Int)) = .returned (.int .u64 ((fB sx (if nup T X0 Y0 j then j + 1 else j) : Nat) : Int)) ∧ Cut T X0 Y0 j) := ⟨k, by rw [HNU.out]; simp, HC.out⟩
              generalize fB sx (k + 1) = G at ho HA
              clear hpar hk1
              go_wp2
              go_ret
              obtain ⟨k9, hk9, hc9⟩ := HA.out
              exact ⟨k9, hk9, hc9, hB.trans (hBW.mono hB.size)⟩
            · by_cases hpar : k % 2 = 1
              · have hodd : ((k : Int) % 2 == 1) = true := by rw [beq_iff_eq]; omega
                have ho := HO.out (k + 1) (by rw [FIv]; omega)
                have hk1 : ((k + 1 : Nat) : Int) = (k : Int) + 1 := by omega
                rw [hk1] at ho
                have HA : Hid (∃ j, Ending.returned (.int .u64 ((fB sx (k + 1) : Nat) : Int)) = .returned (.int .u64 ((fB sx (if nup T X0 Y0 j then j + 1 else j) : Nat) : Int)) ∧ Cut T X0 Y0 j) := ⟨k, by rw [HNU.out]; simp [hpar], HC.out⟩
                generalize fB sx (k + 1) = G at ho HA
                clear hpar hk1
                go_wp2
                go_ret
                obtain ⟨k9, hk9, hc9⟩ := HA.out
                exact ⟨k9, hk9, hc9, hB.trans (hBW.mono hB.size)⟩
              · have hodd : ((k : Int) % 2 == 1) = false := by rw [beq_eq_false_iff_ne]; omega
                have ho := HO.out k (by rw [FIv]; omega)
                have HA : Hid (∃ j, Ending.returned (.int .u64 ((fB sx k : Nat) : Int)) = .returned (.int .u64 ((fB sx (if nup T X0 Y0 j then j + 1 else j) : Nat) : Int)) ∧ Cut T X0 Y0 j) := ⟨k, by rw [HNU.out]; simp [hpar], HC.out⟩
                generalize fB sx k = G at ho HA
                clear hpar
                go_wp2
                go_ret
                obtain ⟨k9, hk9, hc9⟩ := HA.out
                exact ⟨k9, hk9, hc9, hB.trans (hBW.mono hB.size)⟩
            · have hpar : True := trivial
              have ho := HO.out k (by rw [FIv]; omega)
              have HA : Hid (∃ j, Ending.returned (.int .u64 ((fB sx k : Nat) : Int)) = .returned (.int .u64 ((fB sx (if nup T X0 Y0 j then j + 1 else j) : Nat) : Int)) ∧ Cut T X0 Y0 j) := ⟨k, by rw [HNU.out]; simp, HC.out⟩
              generalize fB sx k = G at ho HA
              clear hpar
              go_wp2
              go_ret
              obtain ⟨k9, hk9, hc9⟩ := HA.out
              exact ⟨k9, hk9, hc9, hB.trans (hBW.mono hB.size)⟩
        · have hMe : mid2 k = fm k + fm (k + 1) * 2 := by unfold mid2; rw [hfe]; congr 2; rw [Nat.add_sub_cancel_left, Nat.pow_one]
          rw [hfe]
          have MN := @mid_neg z T X0 Y0 k
          have MP := @mid_pos z T X0 Y0 k
          have hrs : rst T X0 Y0 k = 2 + cmpI (2 * (X0 * T)) ((amt k + amt (k + 1)) * Y0) := if_neg (fun h => HIS.out (Or.inl h))
          generalize fm k = m1 at hMe h1 ⊢
          generalize fm (k + 1) = m2 at hMe h2 ⊢
          generalize fe k = e1 at MN MP h3e ⊢
          generalize mid2 k = M at hMe hM hM0 MN MP
          clear hfe
          have hfm : IntKind.u64.wrap ((m1 : Int) + IntKind.u64.wrap ((m2 : Int) * 2 ^ min (IntKind.u64.wrap (IntKind.i64.wrap ((e1 : Int) + 1 - 1074 - ((e1 : Int) - 1074)))).toNat 64)) = ((M : Nat) : Int) := by
            have e0 : min (IntKind.u64.wrap (IntKind.i64.wrap ((e1 : Int) + 1 - 1074 - ((e1 : Int) - 1074)))).toNat 64 = 1 := by rw [IntKind.wrap_i64, IntKind.wrap_u64]; omega
            rw [e0, hMe, IntKind.wrap_u64, IntKind.wrap_u64]; omega
          have hX0 : X0 ≠ 0 := cut_ne HC.out (fun h => HIS.out (Or.inl h))
          obtain ⟨C, hCd⟩ : ∃ C, cmpI (2 * (X0 * T)) ((amt k + amt (k + 1)) * Y0) = C := ⟨_, rfl⟩
          have hCr2 := cmpI_rng (2 * (X0 * T)) ((amt k + amt (k + 1)) * Y0)
          rw [hCd] at MN MP hrs hCr2
          clear hCd
          have hnu : nup T X0 Y0 k = decide (2 + C = 3 ∨ 2 + C = 2 ∧ k % 2 = 1) := by unfold nup; rw [hrs]
          have lM : ln M ≤ 3 := ln_le_of_lt (by rw [BB_eq]; omega)
          have HOf2 := hide' (fun w' => rOf_any M w' (by omega))
          have HFM := hide' hfm
          have HNU := hide' hnu
          clear hfm hnu hrs hMe h1 h2
          by_cases hsg : e1 < 1075
          · have HG2' := fun w' p k1 k2 k3 => against_neg a0 n0 c0 X0 b0 m0 d0 Y0 0 (ln M) (ln M) M (1075 - e1) p C w' hc0 hm0 k1 hd0 hk0 k2 lM k3 (by omega) (by omega) hX0 (MN HT.out (by have := HZ.out; omega))
            have hx : IntKind.i64.wrap ((e1 : Int) - 1074 - 1) = -((1075 - e1 : Nat) : Int) := by rw [IntKind.wrap_i64]; omega
            rw [← hx] at HG2'
            have HG2 := hide' HG2'
            clear HG2' hx MN MP hsg hX0 hM0
            go_wp2_with fail
            replace hBW := hBW.drew
            replace h3 := h3.drew
            first
              | go_region_held3 (fun w' => w'.cell? ⟨w.heap.size, 0, none⟩ = some (.bool s0) ∧ w'.cell? ⟨w.heap.size, 1, none⟩ = some (.slice a0 n0 c0) ∧ w'.cell? ⟨w.heap.size, 2, none⟩ = some (.slice b0 m0 d0) ∧ w'.cell? ⟨w1.heap.size, 0, none⟩ = some (.bool false) ∧ w'.cell? ⟨w1.heap.size, 1, none⟩ = some (.slice a0 n0 c0) ∧ w'.cell? ⟨w1.heap.size, 2, none⟩ = some (.slice b0 m0 d0) ∧ Below w.heap.size w w')
                  (first | exact ⟨q00, q01, q02, l100, l101, l102, hB.trans (hBW.mono hB.size)⟩ | exact kp6 b8 (by assumption) | exact kp6 b9 (by assumption) | exact kp6 (below_alloc _) (by assumption))
                  (first
                    | (go_at_call 56; (fail_if_success clear b8); rw [HFM.out]; refine (HOf2.out _).mono ?_; rintro e w8 ⟨a8, rfl, h8⟩; have b8 := h8.below; replace h8 := h8.back hBW; replace hBW := hBW.trans (b8.mono hBW.size); replace q00 := below_cell b8 q00; replace q01 := below_cell b8 q01; replace q02 := below_cell b8 q02; replace l100 := below_cell b8 l100; replace l101 := below_cell b8 l101; replace l102 := below_cell b8 l102; replace hL10 := below_row b8 hL10; replace h3 := h3.later b8)
                    | (go_at_call 55; go_at_call_of 55 (Value.agg #[Value.bool false, Value.slice a0 n0 c0, Value.slice b0 m0 d0]); refine (HG2.out _ _ (sb hS0 hB hBW) (sb hT0 hB hBW) h8.seg).mono ?_; rintro e w9 ⟨rfl, b9⟩; replace hBW := hBW.trans (b9.mono hBW.size); replace q00 := below_cell b9 q00; replace q01 := below_cell b9 q01; replace q02 := below_cell b9 q02; replace l100 := below_cell b9 l100; replace l101 := below_cell b9 l101; replace l102 := below_cell b9 l102; replace hL10 := below_row b9 hL10; replace h3 := h3.later b9; replace h8 := h8.later b9))
              | fail
            clear HG2 HOf2 HFM
            obtain rfl | rfl | rfl : C = 1 ∨ C = 0 ∨ C = -1 := by omega
            · have hpar : True := trivial
              have ho := HO.out (k + 1) (by rw [FIv]; omega)
              have hk1 : ((k + 1 : Nat) : Int) = (k : Int) + 1 := by omega
              rw [hk1] at ho
              have HA : Hid (∃ j, Ending.returned (.int .u64 ((fB sx (k + 1) : Nat) : Int)) = .returned (.int .u64 ((fB sx (if nup T X0 Y0 j then j + 1 else j) : Nat) : Int)) ∧ Cut T X0 Y0 j) := ⟨k, by rw [HNU.out]; simp, HC.out⟩
              generalize fB sx (k + 1) = G at ho HA
              clear hpar hk1
              go_wp2
              go_ret
              obtain ⟨k9, hk9, hc9⟩ := HA.out
              exact ⟨k9, hk9, hc9, hB.trans (hBW.mono hB.size)⟩
            · by_cases hpar : k % 2 = 1
              · have hodd : ((k : Int) % 2 == 1) = true := by rw [beq_iff_eq]; omega
                have ho := HO.out (k + 1) (by rw [FIv]; omega)
                have hk1 : ((k + 1 : Nat) : Int) = (k : Int) + 1 := by omega
                rw [hk1] at ho
                have HA : Hid (∃ j, Ending.returned (.int .u64 ((fB sx (k + 1) : Nat) : Int)) = .returned (.int .u64 ((fB sx (if nup T X0 Y0 j then j + 1 else j) : Nat) : Int)) ∧ Cut T X0 Y0 j) := ⟨k, by rw [HNU.out]; simp [hpar], HC.out⟩
                generalize fB sx (k + 1) = G at ho HA
                clear hpar hk1
                go_wp2
                go_ret
                obtain ⟨k9, hk9, hc9⟩ := HA.out
                exact ⟨k9, hk9, hc9, hB.trans (hBW.mono hB.size)⟩
              · have hodd : ((k : Int) % 2 == 1) = false := by rw [beq_eq_false_iff_ne]; omega
                have ho := HO.out k (by rw [FIv]; omega)
                have HA : Hid (∃ j, Ending.returned (.int .u64 ((fB sx k : Nat) : Int)) = .returned (.int .u64 ((fB sx (if nup T X0 Y0 j then j + 1 else j) : Nat) : Int)) ∧ Cut T X0 Y0 j) := ⟨k, by rw [HNU.out]; simp [hpar], HC.out⟩
                generalize fB sx k = G at ho HA
                clear hpar
                go_wp2
                go_ret
                obtain ⟨k9, hk9, hc9⟩ := HA.out
                exact ⟨k9, hk9, hc9, hB.trans (hBW.mono hB.size)⟩
            · have hpar : True := trivial
              have ho := HO.out k (by rw [FIv]; omega)
              have HA : Hid (∃ j, Ending.returned (.int .u64 ((fB sx k : Nat) : Int)) = .returned (.int .u64 ((fB sx (if nup T X0 Y0 j then j + 1 else j) : Nat) : Int)) ∧ Cut T X0 Y0 j) := ⟨k, by rw [HNU.out]; simp, HC.out⟩
              generalize fB sx k = G at ho HA
              clear hpar
              go_wp2
              go_ret
              obtain ⟨k9, hk9, hc9⟩ := HA.out
              exact ⟨k9, hk9, hc9, hB.trans (hBW.mono hB.size)⟩
          · have HG2' := fun w' p k1 k2 k3 => against_pos a0 n0 c0 X0 b0 m0 d0 Y0 0 (ln M) (ln M) M (e1 - 1075) p C w' hc0 hm0 k1 hd0 hk0 k2 lM k3 (by omega) (Nat.mul_ne_zero hM0 HY.out) (MP HT.out (by have := HZ.out; omega))
            have hx : IntKind.i64.wrap ((e1 : Int) - 1074 - 1) = ((e1 - 1075 : Nat) : Int) := by rw [IntKind.wrap_i64]; omega
            rw [← hx] at HG2'
            have HG2 := hide' HG2'
            clear HG2' hx MN MP hsg hX0 hM0
            go_wp2_with fail
            replace hBW := hBW.drew
            replace h3 := h3.drew
            first
              | go_region_held3 (fun w' => w'.cell? ⟨w.heap.size, 0, none⟩ = some (.bool s0) ∧ w'.cell? ⟨w.heap.size, 1, none⟩ = some (.slice a0 n0 c0) ∧ w'.cell? ⟨w.heap.size, 2, none⟩ = some (.slice b0 m0 d0) ∧ w'.cell? ⟨w1.heap.size, 0, none⟩ = some (.bool false) ∧ w'.cell? ⟨w1.heap.size, 1, none⟩ = some (.slice a0 n0 c0) ∧ w'.cell? ⟨w1.heap.size, 2, none⟩ = some (.slice b0 m0 d0) ∧ Below w.heap.size w w')
                  (first | exact ⟨q00, q01, q02, l100, l101, l102, hB.trans (hBW.mono hB.size)⟩ | exact kp6 b8 (by assumption) | exact kp6 b9 (by assumption) | exact kp6 (below_alloc _) (by assumption))
                  (first
                    | (go_at_call 56; (fail_if_success clear b8); rw [HFM.out]; refine (HOf2.out _).mono ?_; rintro e w8 ⟨a8, rfl, h8⟩; have b8 := h8.below; replace h8 := h8.back hBW; replace hBW := hBW.trans (b8.mono hBW.size); replace q00 := below_cell b8 q00; replace q01 := below_cell b8 q01; replace q02 := below_cell b8 q02; replace l100 := below_cell b8 l100; replace l101 := below_cell b8 l101; replace l102 := below_cell b8 l102; replace hL10 := below_row b8 hL10; replace h3 := h3.later b8)
                    | (go_at_call 55; go_at_call_of 55 (Value.agg #[Value.bool false, Value.slice a0 n0 c0, Value.slice b0 m0 d0]); refine (HG2.out _ _ (sb hS0 hB hBW) (sb hT0 hB hBW) h8.seg).mono ?_; rintro e w9 ⟨rfl, b9⟩; replace hBW := hBW.trans (b9.mono hBW.size); replace q00 := below_cell b9 q00; replace q01 := below_cell b9 q01; replace q02 := below_cell b9 q02; replace l100 := below_cell b9 l100; replace l101 := below_cell b9 l101; replace l102 := below_cell b9 l102; replace hL10 := below_row b9 hL10; replace h3 := h3.later b9; replace h8 := h8.later b9))
              | fail
            clear HG2 HOf2 HFM
            obtain rfl | rfl | rfl : C = 1 ∨ C = 0 ∨ C = -1 := by omega
            · have hpar : True := trivial
              have ho := HO.out (k + 1) (by rw [FIv]; omega)
              have hk1 : ((k + 1 : Nat) : Int) = (k : Int) + 1 := by omega
              rw [hk1] at ho
              have HA : Hid (∃ j, Ending.returned (.int .u64 ((fB sx (k + 1) : Nat) : Int)) = .returned (.int .u64 ((fB sx (if nup T X0 Y0 j then j + 1 else j) : Nat) : Int)) ∧ Cut T X0 Y0 j) := ⟨k, by rw [HNU.out]; simp, HC.out⟩
              generalize fB sx (k + 1) = G at ho HA
              clear hpar hk1
              go_wp2
              go_ret
              obtain ⟨k9, hk9, hc9⟩ := HA.out
              exact ⟨k9, hk9, hc9, hB.trans (hBW.mono hB.size)⟩
            · by_cases hpar : k % 2 = 1
              · have hodd : ((k : Int) % 2 == 1) = true := by rw [beq_iff_eq]; omega
                have ho := HO.out (k + 1) (by rw [FIv]; omega)
                have hk1 : ((k + 1 : Nat) : Int) = (k : Int) + 1 := by omega
                rw [hk1] at ho
                have HA : Hid (∃ j, Ending.returned (.int .u64 ((fB sx (k + 1) : Nat) : Int)) = .returned (.int .u64 ((fB sx (if nup T X0 Y0 j then j + 1 else j) : Nat) : Int)) ∧ Cut T X0 Y0 j) := ⟨k, by rw [HNU.out]; simp [hpar], HC.out⟩
                generalize fB sx (k + 1) = G at ho HA
                clear hpar hk1
                go_wp2
                go_ret
                obtain ⟨k9, hk9, hc9⟩ := HA.out
                exact ⟨k9, hk9, hc9, hB.trans (hBW.mono hB.size)⟩
              · have hodd : ((k : Int) % 2 == 1) = false := by rw [beq_eq_false_iff_ne]; omega
                have ho := HO.out k (by rw [FIv]; omega)
                have HA : Hid (∃ j, Ending.returned (.int .u64 ((fB sx k : Nat) : Int)) = .returned (.int .u64 ((fB sx (if nup T X0 Y0 j then j + 1 else j) : Nat) : Int)) ∧ Cut T X0 Y0 j) := ⟨k, by rw [HNU.out]; simp [hpar], HC.out⟩
                generalize fB sx k = G at ho HA
                clear hpar
                go_wp2
                go_ret
                obtain ⟨k9, hk9, hc9⟩ := HA.out
                exact ⟨k9, hk9, hc9, hB.trans (hBW.mono hB.size)⟩
            · have hpar : True := trivial
              have ho := HO.out k (by rw [FIv]; omega)
              have HA : Hid (∃ j, Ending.returned (.int .u64 ((fB sx k : Nat) : Int)) = .returned (.int .u64 ((fB sx (if nup T X0 Y0 j then j + 1 else j) : Nat) : Int)) ∧ Cut T X0 Y0 j) := ⟨k, by rw [HNU.out]; simp, HC.out⟩
              generalize fB sx k = G at ho HA
              clear hpar
              go_wp2
              go_ret
              obtain ⟨k9, hk9, hc9⟩ := HA.out
              exact ⟨k9, hk9, hc9, hB.trans (hBW.mono hB.size)⟩
end Go.Proofs.Ytjofldgaefjapaa

namespace Go.Proofs.Ytjofldgaefjapaa
open Go.RowKit
set_option linter.unusedVariables false

set_option maxHeartbeats 4000000 in
set_option maxRecDepth 100000 in
theorem vnear_is (s0 : Bool) (a0 : Option Addr) (n0 c0 X0 : Nat) (b0 : Option Addr) (m0 d0 Y0 : Nat) (z T : Nat) (w : World) (hc0 : n0 ≤ c0) (hm0 : n0 ≤ 35184372087808) (hS0 : Seg w a0 X0 n0) (hd0 : m0 ≤ d0) (hk0 : m0 ≤ 35184372087808) (hT0 : Seg w b0 Y0 m0) (hz : z = 1074) (hT : T = 2 ^ z) :
    Calls Try.prog 8 #[Value.agg #[Value.bool s0, Value.slice a0 n0 c0, Value.slice b0 m0 d0]] w fun e w' => ∃ k, e = .returned (.float .f64 (nearB T s0 X0 Y0 k)) ∧ Cut T (rN X0 Y0) (rd Y0) k ∧ Below w.heap.size w w' := by
  have HC := hide' (fun w' k1 k2 => vnearB_is s0 a0 n0 c0 X0 b0 m0 d0 Y0 z T w' hc0 hm0 k1 hd0 hk0 k2 hz hT)
  have hfr := from_run
  clear hz hT
  go_enter Try.func8, Try.ntmps8
  go_wp2_with fail
  have q00 : ((w.alloc (.cells #[.bool s0, .slice a0 n0 c0, .slice b0 m0 d0] 27))).cell? ⟨w.heap.size, 0, none⟩ = some (.bool s0) := by go_simp
  have q01 : ((w.alloc (.cells #[.bool s0, .slice a0 n0 c0, .slice b0 m0 d0] 27))).cell? ⟨w.heap.size, 1, none⟩ = some (.slice a0 n0 c0) := by go_simp
  have q02 : ((w.alloc (.cells #[.bool s0, .slice a0 n0 c0, .slice b0 m0 d0] 27))).cell? ⟨w.heap.size, 2, none⟩ = some (.slice b0 m0 d0) := by go_simp
  have hB : Below w.heap.size w ((w.alloc (.cells #[.bool s0, .slice a0 n0 c0, .slice b0 m0 d0] 27))) := ((Below.refl _ _).alloc (by (try simp only [World.size_alloc]); omega) _)
  have hz : ((w.alloc (.cells #[.bool s0, .slice a0 n0 c0, .slice b0 m0 d0] 27))).heap.size = w.heap.size + 1 := by simp only [World.size_alloc]
  generalize (w.alloc (.cells #[.bool s0, .slice a0 n0 c0, .slice b0 m0 d0] 27)) = W at q00 q01 q02 hB hz ⊢
  have hBW : Below W.heap.size W W := Below.refl _ _
  go_wp2_with fail
  refine (HC.out _ (sb hS0 hB hBW) (sb hT0 hB hBW)).mono ?_
  rintro e w1 ⟨k, rfl, hCut, bb1⟩
  have b1 := bb1
  replace hBW := hBW.trans (b1.mono hBW.size)
  replace q00 := below_cell b1 q00
  replace q01 := below_cell b1 q01
  replace q02 := below_cell b1 q02
  have HK := hide' hCut
  clear hCut
  have HA : Hid (∃ j, Ending.returned (.float .f64 (nearB T s0 X0 Y0 k)) = .returned (.float .f64 (nearB T s0 X0 Y0 j)) ∧ Cut T (rN X0 Y0) (rd Y0) j) := ⟨k, rfl, HK.out⟩
  generalize nearB T s0 X0 Y0 k = G at HA ⊢
  go_wp2
  go_ret
  obtain ⟨k9, hk9, hc9⟩ := HA.out
  exact ⟨k9, hk9, hc9, hB.trans (hBW.mono hB.size)⟩
set_option maxHeartbeats 4000000 in
set_option maxRecDepth 100000 in
theorem vdown_is (s0 : Bool) (a0 : Option Addr) (n0 c0 X0 : Nat) (b0 : Option Addr) (m0 d0 Y0 : Nat) (z T : Nat) (w : World) (hc0 : n0 ≤ c0) (hm0 : n0 ≤ 35184372087808) (hS0 : Seg w a0 X0 n0) (hd0 : m0 ≤ d0) (hk0 : m0 ≤ 35184372087808) (hT0 : Seg w b0 Y0 m0) (hz : z = 1074) (hT : T = 2 ^ z) :
    Calls Try.prog 10 #[Value.agg #[Value.bool s0, Value.slice a0 n0 c0, Value.slice b0 m0 d0]] w fun e w' => ∃ k, e = .returned (.float .f64 (downB T s0 X0 Y0 k)) ∧ Cut T (rN X0 Y0) (rd Y0) k ∧ Below w.heap.size w w' := by
  have HC := hide' (fun w' k1 k2 => vdownB_is s0 a0 n0 c0 X0 b0 m0 d0 Y0 z T w' hc0 hm0 k1 hd0 hk0 k2 hz hT)
  have hfr := from_run
  clear hz hT
  go_enter Try.func10, Try.ntmps10
  go_wp2_with fail
  have q00 : ((w.alloc (.cells #[.bool s0, .slice a0 n0 c0, .slice b0 m0 d0] 27))).cell? ⟨w.heap.size, 0, none⟩ = some (.bool s0) := by go_simp
  have q01 : ((w.alloc (.cells #[.bool s0, .slice a0 n0 c0, .slice b0 m0 d0] 27))).cell? ⟨w.heap.size, 1, none⟩ = some (.slice a0 n0 c0) := by go_simp
  have q02 : ((w.alloc (.cells #[.bool s0, .slice a0 n0 c0, .slice b0 m0 d0] 27))).cell? ⟨w.heap.size, 2, none⟩ = some (.slice b0 m0 d0) := by go_simp
  have hB : Below w.heap.size w ((w.alloc (.cells #[.bool s0, .slice a0 n0 c0, .slice b0 m0 d0] 27))) := ((Below.refl _ _).alloc (by (try simp only [World.size_alloc]); omega) _)
  have hz : ((w.alloc (.cells #[.bool s0, .slice a0 n0 c0, .slice b0 m0 d0] 27))).heap.size = w.heap.size + 1 := by simp only [World.size_alloc]
  generalize (w.alloc (.cells #[.bool s0, .slice a0 n0 c0, .slice b0 m0 d0] 27)) = W at q00 q01 q02 hB hz ⊢
  have hBW : Below W.heap.size W W := Below.refl _ _
  go_wp2_with fail
  refine (HC.out _ (sb hS0 hB hBW) (sb hT0 hB hBW)).mono ?_
  rintro e w1 ⟨k, rfl, hCut, bb1⟩
  have b1 := bb1
  replace hBW := hBW.trans (b1.mono hBW.size)
  replace q00 := below_cell b1 q00
  replace q01 := below_cell b1 q01
  replace q02 := below_cell b1 q02
  have HK := hide' hCut
  clear hCut
  have HA : Hid (∃ j, Ending.returned (.float .f64 (downB T s0 X0 Y0 k)) = .returned (.float .f64 (downB T s0 X0 Y0 j)) ∧ Cut T (rN X0 Y0) (rd Y0) j) := ⟨k, rfl, HK.out⟩
  generalize downB T s0 X0 Y0 k = G at HA ⊢
  go_wp2
  go_ret
  obtain ⟨k9, hk9, hc9⟩ := HA.out
  exact ⟨k9, hk9, hc9, hB.trans (hBW.mono hB.size)⟩
set_option maxHeartbeats 4000000 in
set_option maxRecDepth 100000 in
theorem vup_is (s0 : Bool) (a0 : Option Addr) (n0 c0 X0 : Nat) (b0 : Option Addr) (m0 d0 Y0 : Nat) (z T : Nat) (w : World) (hc0 : n0 ≤ c0) (hm0 : n0 ≤ 35184372087808) (hS0 : Seg w a0 X0 n0) (hd0 : m0 ≤ d0) (hk0 : m0 ≤ 35184372087808) (hT0 : Seg w b0 Y0 m0) (hz : z = 1074) (hT : T = 2 ^ z) :
    Calls Try.prog 12 #[Value.agg #[Value.bool s0, Value.slice a0 n0 c0, Value.slice b0 m0 d0]] w fun e w' => ∃ k, e = .returned (.float .f64 (upB T s0 X0 Y0 k)) ∧ Cut T (rN X0 Y0) (rd Y0) k ∧ Below w.heap.size w w' := by
  have HC := hide' (fun w' k1 k2 => vupB_is s0 a0 n0 c0 X0 b0 m0 d0 Y0 z T w' hc0 hm0 k1 hd0 hk0 k2 hz hT)
  have hfr := from_run
  clear hz hT
  go_enter Try.func12, Try.ntmps12
  go_wp2_with fail
  have q00 : ((w.alloc (.cells #[.bool s0, .slice a0 n0 c0, .slice b0 m0 d0] 27))).cell? ⟨w.heap.size, 0, none⟩ = some (.bool s0) := by go_simp
  have q01 : ((w.alloc (.cells #[.bool s0, .slice a0 n0 c0, .slice b0 m0 d0] 27))).cell? ⟨w.heap.size, 1, none⟩ = some (.slice a0 n0 c0) := by go_simp
  have q02 : ((w.alloc (.cells #[.bool s0, .slice a0 n0 c0, .slice b0 m0 d0] 27))).cell? ⟨w.heap.size, 2, none⟩ = some (.slice b0 m0 d0) := by go_simp
  have hB : Below w.heap.size w ((w.alloc (.cells #[.bool s0, .slice a0 n0 c0, .slice b0 m0 d0] 27))) := ((Below.refl _ _).alloc (by (try simp only [World.size_alloc]); omega) _)
  have hz : ((w.alloc (.cells #[.bool s0, .slice a0 n0 c0, .slice b0 m0 d0] 27))).heap.size = w.heap.size + 1 := by simp only [World.size_alloc]
  generalize (w.alloc (.cells #[.bool s0, .slice a0 n0 c0, .slice b0 m0 d0] 27)) = W at q00 q01 q02 hB hz ⊢
  have hBW : Below W.heap.size W W := Below.refl _ _
  go_wp2_with fail
  refine (HC.out _ (sb hS0 hB hBW) (sb hT0 hB hBW)).mono ?_
  rintro e w1 ⟨k, rfl, hCut, bb1⟩
  have b1 := bb1
  replace hBW := hBW.trans (b1.mono hBW.size)
  replace q00 := below_cell b1 q00
  replace q01 := below_cell b1 q01
  replace q02 := below_cell b1 q02
  have HK := hide' hCut
  clear hCut
  have HA : Hid (∃ j, Ending.returned (.float .f64 (upB T s0 X0 Y0 k)) = .returned (.float .f64 (upB T s0 X0 Y0 j)) ∧ Cut T (rN X0 Y0) (rd Y0) j) := ⟨k, rfl, HK.out⟩
  generalize upB T s0 X0 Y0 k = G at HA ⊢
  go_wp2
  go_ret
  obtain ⟨k9, hk9, hc9⟩ := HA.out
  exact ⟨k9, hk9, hc9, hB.trans (hBW.mono hB.size)⟩
end Go.Proofs.Ytjofldgaefjapaa
