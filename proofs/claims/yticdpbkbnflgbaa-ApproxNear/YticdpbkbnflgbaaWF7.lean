/-
  The reference: the greatest float that is not above a number.
-/
import Derived.Test.YticdpbkbnflgbaaWF6
namespace Go.Proofs.Yticdpbkbnflgbaa
open Go.RowKit
set_option linter.unusedVariables false

theorem bl_gt {Q t : Nat} : t < bl Q ↔ 2 ^ t ≤ Q := by
  constructor
  · intro h
    have h0 : Q ≠ 0 := by rintro rfl; rw [bl_zero] at h; omega
    exact Nat.le_trans (Nat.pow_le_pow_right (by omega) (by omega)) (bl_le h0)
  · intro h
    have := bl_lt Q
    exact (Nat.pow_lt_pow_iff_right (a := 2) (by omega)).1 (Nat.lt_of_le_of_lt h this)
theorem bl53 {Q : Nat} : 53 < bl Q ↔ 9007199254740992 ≤ Q := bl_gt (t := 53)
theorem rBits_b (ao : Option Addr) (n cap X : Nat) (w : World) (hm : n ≤ 70368744177664) (hS : Seg w ao X n) :
    Calls Try.prog 88 #[.slice ao n cap] w fun e w' => e = .returned (.int .i64 (bl X : Nat)) ∧ Below w.heap.size w w' :=
  (rBits_any ao n cap X w hm hS).mono fun e w' ⟨h1, h2⟩ => ⟨h1, by rw [← h2]; exact Below.refl _ _⟩
theorem is_of {T N D k : Nat} (h : rst T N D k = 3) : decide (N * T = amt k * D) = false := by
  rw [decide_eq_false_iff_not]; intro e
  rw [rst_zero.2 e] at h
  exact absurd h (by decide)
theorem ret_ib {a b : Int} {c : Bool} (h : a = b) : Ending.returned (.tuple #[.int .u64 a, .bool c]) = .returned (.tuple #[.int .u64 b, .bool c]) := by rw [h]
theorem low_k {e Q k : Nat} (hg : e = 0 ∨ LD ≤ Q) (hl : Q < 4503599627370496) (hk : e * LD + Q = k) : Q = k := by
  rw [show LD = 4503599627370496 from rfl] at hg
  obtain rfl : e = 0 := by omega
  rw [← hk, Nat.zero_mul, Nat.zero_add]
theorem wrap_far {a b : Nat} (ha : a ≤ 1125899906842624) (hb : b ≤ 1125899906842624) : IntKind.i64.wrap ((a : Int) - (b : Int)) = (a : Int) - (b : Int) := by
  rw [IntKind.wrap_i64]; omega
theorem s5_lt {X Y z : Nat} (hX : X ≠ 0) (hY : Y ≠ 0) (hz : z = 1074) {e : Nat} (he : bl X + 1020 ≤ bl Y + e) : quo z X Y e < 36028797018963968 := by
  have h1 := bl_pos hY
  exact quo_lt (t := 55) (bl_lt X) (bl_le hY) (by omega) (by omega)

set_option maxHeartbeats 4000000 in
set_option maxRecDepth 100000 in
theorem below_is (a0 : Option Addr) (n0 c0 X0 : Nat) (b0 : Option Addr) (m0 d0 Y0 : Nat) (z T : Nat) (w : World) (hc0 : n0 ≤ c0) (hm0 : n0 ≤ 35184372087808) (hS0 : Seg w a0 X0 n0) (hd0 : m0 ≤ d0) (hk0 : m0 ≤ 35184372087808) (hT0 : Seg w b0 Y0 m0) (hz : z = 1074) (hT : T = 2 ^ z) :
    Calls Try.prog 61 #[Value.agg #[Value.bool false, Value.slice a0 n0 c0, Value.slice b0 m0 d0]] w fun e w' => ∃ k, e = .returned (.tuple #[.int .u64 ((k : Nat) : Int), .bool (decide (rN X0 Y0 * T = amt k * rd Y0))]) ∧ Cut T (rN X0 Y0) (rd Y0) k ∧ Below w.heap.size w w' := by
  by_cases hX : X0 = 0
  · rw [rN_nought (Or.inl hX)]
    have HC := hide' (Cut.nought T (rd_pos Y0))
    have hd : decide (0 * T = amt 0 * rd Y0) = true := by rw [amt_zero, Nat.zero_mul, Nat.zero_mul]; rfl
    have hans : Ending.returned (.tuple #[.int .u64 0, .bool true]) = .returned (.tuple #[.int .u64 ((0 : Nat) : Int), .bool (decide (0 * T = amt 0 * rd Y0))]) := by rw [hd]; rfl
    have HH := hide' hans
    clear hans hd hz hT
    have hbx : bl X0 = 0 := by rw [hX]; exact bl_zero
    clear hX
    go_enter Try.func61, Try.ntmps61
    go_upto_region 1 with fail
    obtain ⟨W, hW⟩ : ∃ W, (w.alloc (.cells #[.bool false, .slice a0 n0 c0, .slice b0 m0 d0] 27)) = W := ⟨_, rfl⟩
    have q00 : W.cell? ⟨w.heap.size, 0, none⟩ = some (.bool false) := by subst hW; go_simp
    have q01 : W.cell? ⟨w.heap.size, 1, none⟩ = some (.slice a0 n0 c0) := by subst hW; go_simp
    have q02 : W.cell? ⟨w.heap.size, 2, none⟩ = some (.slice b0 m0 d0) := by subst hW; go_simp
    have hB : Below w.heap.size w W := by subst hW; exact ((Below.refl _ _).alloc (by (try simp only [World.size_alloc]); omega) _)
    have hz : W.heap.size = w.heap.size + 1 := by subst hW; simp only [World.size_alloc]
    rw [hW]
    clear hW
    have hBW : Below W.heap.size W W := Below.refl _ _
    go_wp2_with fail
    refine (rBits_any _ _ _ X0 _ (by omega) (sb hS0 hB hBW)).mono ?_
    rintro e1 w1 ⟨rfl, rfl⟩
    go_wp2
    go_ret2
    exact ⟨0, HH.out, HC.out, hB⟩
  · by_cases hY : Y0 = 0
    · rw [rN_nought (Or.inr hY)]
      have HC := hide' (Cut.nought T (rd_pos Y0))
      have hd : decide (0 * T = amt 0 * rd Y0) = true := by rw [amt_zero, Nat.zero_mul, Nat.zero_mul]; rfl
      have hans : Ending.returned (.tuple #[.int .u64 0, .bool true]) = .returned (.tuple #[.int .u64 ((0 : Nat) : Int), .bool (decide (0 * T = amt 0 * rd Y0))]) := by rw [hd]; rfl
      have HH := hide' hans
      clear hans hd hz hT
      have hbx : 0 < bl X0 := by rw [bl_pos hX]; omega
      have hbx2 : (((bl X0 : Nat) : Int) == 0) = false := by rw [beq_eq_false_iff_ne]; omega
      have hby : bl Y0 = 0 := by rw [hY]; exact bl_zero
      clear hX hY
      go_enter Try.func61, Try.ntmps61
      go_upto_region 1 with fail
      obtain ⟨W, hW⟩ : ∃ W, (w.alloc (.cells #[.bool false, .slice a0 n0 c0, .slice b0 m0 d0] 27)) = W := ⟨_, rfl⟩
      have q00 : W.cell? ⟨w.heap.size, 0, none⟩ = some (.bool false) := by subst hW; go_simp
      have q01 : W.cell? ⟨w.heap.size, 1, none⟩ = some (.slice a0 n0 c0) := by subst hW; go_simp
      have q02 : W.cell? ⟨w.heap.size, 2, none⟩ = some (.slice b0 m0 d0) := by subst hW; go_simp
      have hB : Below w.heap.size w W := by subst hW; exact ((Below.refl _ _).alloc (by (try simp only [World.size_alloc]); omega) _)
      have hz : W.heap.size = w.heap.size + 1 := by subst hW; simp only [World.size_alloc]
      rw [hW]
      clear hW
      have hBW : Below W.heap.size W W := Below.refl _ _
      go_wp2_with fail
      refine (rBits_any _ _ _ X0 _ (by omega) (sb hS0 hB hBW)).mono ?_
      rintro e1 w1 ⟨rfl, rfl⟩
      go_wp2_with fail
      refine (rBits_any _ _ _ Y0 _ (by omega) (sb hT0 hB hBW)).mono ?_
      rintro e1 w1 ⟨rfl, rfl⟩
      go_wp2
      go_ret2
      exact ⟨0, HH.out, HC.out, hB⟩
    · rw [rN_of hY, rd_of hY]
      have hbx : 0 < bl X0 := by rw [bl_pos hX]; omega
      have hby : 0 < bl Y0 := by rw [bl_pos hY]; omega
      have hbx2 : (((bl X0 : Nat) : Int) == 0) = false := by rw [beq_eq_false_iff_ne]; omega
      have hby2 : (((bl Y0 : Nat) : Int) == 0) = false := by rw [beq_eq_false_iff_ne]; omega
      have bx := bl_le_len hS0.1
      have by_ := bl_le_len hT0.1
      have HX := hide' hX
      have HY := hide' hY
      have HZ := hide' hz
      have HT := hide' hT
      clear hX hY hz hT
      go_enter Try.func61, Try.ntmps61
      go_upto_region 1 with fail
      obtain ⟨W, hW⟩ : ∃ W, (w.alloc (.cells #[.bool false, .slice a0 n0 c0, .slice b0 m0 d0] 27)) = W := ⟨_, rfl⟩
      have q00 : W.cell? ⟨w.heap.size, 0, none⟩ = some (.bool false) := by subst hW; go_simp
      have q01 : W.cell? ⟨w.heap.size, 1, none⟩ = some (.slice a0 n0 c0) := by subst hW; go_simp
      have q02 : W.cell? ⟨w.heap.size, 2, none⟩ = some (.slice b0 m0 d0) := by subst hW; go_simp
      have hB : Below w.heap.size w W := by subst hW; exact ((Below.refl _ _).alloc (by (try simp only [World.size_alloc]); omega) _)
      have hz : W.heap.size = w.heap.size + 1 := by subst hW; simp only [World.size_alloc]
      rw [hW]
      clear hW
      have hBW : Below W.heap.size W W := Below.refl _ _
      go_wp2_with fail
      refine (rBits_any _ _ _ X0 _ (by omega) (sb hS0 hB hBW)).mono ?_
      rintro e1 w1 ⟨rfl, rfl⟩
      go_wp2_with fail
      refine (rBits_any _ _ _ Y0 _ (by omega) (sb hT0 hB hBW)).mono ?_
      rintro e1 w1 ⟨rfl, rfl⟩
      go_wp2_with fail
      replace hBW := hBW.drew
      first
        | go_region_held3 (fun w' => w'.cell? ⟨w.heap.size, 0, none⟩ = some (.bool false) ∧ w'.cell? ⟨w.heap.size, 1, none⟩ = some (.slice a0 n0 c0) ∧ w'.cell? ⟨w.heap.size, 2, none⟩ = some (.slice b0 m0 d0) ∧ Below w.heap.size w w')
            (first | exact ⟨q00, q01, q02, hB.trans (hBW.mono hB.size)⟩ | exact kp3 b1 (by assumption) | exact kp3 b2 (by assumption) | exact kp3 (below_alloc _) (by assumption))
            (first
              | (go_at_call 88; go_at_call_of 88 (Value.slice a0 n0 c0); refine (rBits_b a0 n0 c0 X0 _ (by omega) (sb hS0 hB hBW)).mono ?_; rintro e w1 ⟨rfl, b1⟩; replace hBW := hBW.trans (b1.mono hBW.size); replace q00 := below_cell b1 q00; replace q01 := below_cell b1 q01; replace q02 := below_cell b1 q02)
              | (go_at_call 88; go_at_call_of 88 (Value.slice b0 m0 d0); refine (rBits_b b0 m0 d0 Y0 _ (by omega) (sb hT0 hB hBW)).mono ?_; rintro e w2 ⟨rfl, b2⟩; replace hBW := hBW.trans (b2.mono hBW.size); replace q00 := below_cell b2 q00; replace q01 := below_cell b2 q01; replace q02 := below_cell b2 q02))
        | fail
      rw [wrap_far (by omega) (by omega)]
      by_cases hfar : ((bl X0 : Nat) : Int) - ((bl Y0 : Nat) : Int) > 1030
      · obtain ⟨y, hyd⟩ : ∃ y : Nat, y = 1024 := ⟨_, rfl⟩
        obtain ⟨hcut, hrs, _⟩ := far_cut (y := y) HT.out (by have := HZ.out; omega) (by have := HY.out; omega) (far_of (bl_le HX.out) (bl_lt Y0) (y := y) (by omega))
        have HH : Hid (Ending.returned (.tuple #[.int .u64 9218868437227405311, .bool false]) = .returned (.tuple #[.int .u64 ((FI - 1 : Nat) : Int), .bool (decide (X0 * T = amt (FI - 1) * Y0))])) := by show _ = _; rw [is_of hrs]; rfl
        have HC := hide' hcut
        clear hcut hrs hyd
        go_wp2
        go_ret2
        exact ⟨_, HH.out, HC.out, hB.trans (hBW.mono hB.size)⟩
      · by_cases htiny : ((bl X0 : Nat) : Int) - ((bl Y0 : Nat) : Int) < -1100
        · obtain ⟨hcut, hne⟩ := tiny_cut HT.out (bl_lt X0) HX.out (bl_le HY.out) (by have := HZ.out; omega)
          have HH : Hid (Ending.returned (.tuple #[.int .u64 0, .bool false]) = .returned (.tuple #[.int .u64 ((0 : Nat) : Int), .bool (decide (X0 * T = amt 0 * Y0))])) := by show _ = _; rw [decide_eq_false hne]; rfl
          have HC := hide' hcut
          clear hcut hne
          go_wp2
          go_ret2
          exact ⟨_, HH.out, HC.out, hB.trans (hBW.mono hB.size)⟩
        · by_cases hlow : ((bl X0 : Nat) : Int) - ((bl Y0 : Nat) : Int) - 54 < -1074
          · have hg0 : Hid ((0 : Nat) = 0 ∨ LD ≤ quo z X0 Y0 0) := Or.inl rfl
            have hq0 := hide' (s5_lt HX.out HY.out HZ.out (e := 0) (by omega))
            have H1 := hide' (fun w' k1 k2 => quotient_is a0 n0 c0 X0 b0 m0 d0 Y0 z 0 _ _ (-1074) w' hc0 hm0 k1 hd0 hk0 k2 HZ.out HX.out HY.out (by omega) (by omega) rfl rfl)
            go_wp2_with fail
            refine (H1.out _ (sb hS0 hB hBW) (sb hT0 hB hBW)).mono ?_
            rintro e4 w4 ⟨a4, rfl, h4⟩
            have b4 := h4.below
            have s4 := h4.seg
            clear h4
            replace hBW := hBW.trans (b4.mono hBW.size)
            replace q00 := below_cell b4 q00
            replace q01 := below_cell b4 q01
            replace q02 := below_cell b4 q02
            go_wp2_with fail
            go_loopg [5, 6, 7] (quo z X0 Y0 0) (fun k v5 v6 v7 wr => ∃ e aq, v5 = .int .i64 ((e : Nat) - 1074 : Int) ∧ v6 = .slice aq (ln (quo z X0 Y0 e)) (ln (quo z X0 Y0 e)) ∧ v7 = .bool (decide (lef z X0 Y0 e = 0)) ∧ quo z X0 Y0 e = k ∧ (e = 0 ∨ LD ≤ quo z X0 Y0 e) ∧ ((e = 0 ∧ quo z X0 Y0 e < 36028797018963968) ∨ (e = 0 + 1 ∧ quo z X0 Y0 e < 18014398509481984) ∨ (e = 0 + 2 ∧ quo z X0 Y0 e < 9007199254740992)) ∧ Seg wr aq (quo z X0 Y0 e) (ln (quo z X0 Y0 e)) ∧ Below w4.heap.size w4 wr)
            case atStart => exact ⟨0, a4, rfl, rfl, rfl, rfl, Or.inl rfl, Or.inl ⟨rfl, hq0.out⟩, s4, Below.refl _ _⟩
            case round =>
              clear hq0 hg0 s4 H1
              obtain ⟨e, aq, rfl, rfl, rfl, hqk, hg, hq, sq, hL⟩ := hrel
              replace hBW := hBW.trans (hL.mono hBW.size)
              replace q00 := below_cell hL q00
              replace q01 := below_cell hL q01
              replace q02 := below_cell hL q02
              obtain ⟨Q, hQ⟩ : ∃ Q, quo z X0 Y0 e = Q := ⟨_, rfl⟩
              obtain ⟨L, hLd⟩ : ∃ L, lef z X0 Y0 e = L := ⟨_, rfl⟩
              have HN := hide' (quo_succ z X0 Y0 e)
              have HM := hide' (fun h1 h2 h3 => met_quo (N := X0) (D := Y0) (e := e) HT.out (by have := HY.out; omega) h1 h2 h3)
              have HF := hide' (fun y h1 h2 => quo_far (z := z) (N := X0) (D := Y0) (e := e) (y := y) (t := 52) (by have := HY.out; omega) h1 h2)
              rw [hQ] at sq hqk hg hq HN HM HF
              rw [hLd] at HM
              rw [hQ, hLd]
              have heb : e ≤ 2100 := by omega
              have HK := hide' hqk
              have HG := hide' hg
              have HQ := hide' hq
              have HQd := hide' hQ
              have HLd := hide' hLd
              have lQ : ln Q ≤ 2 := ln_le_of_lt (by rw [BB2]; omega)
              clear hqk hg hq hQ hLd
              by_cases hbig : 9007199254740992 ≤ Q
              · have hb : 53 < bl Q := bl53.2 hbig
                have H2 := hide' (fun w' k1 k2 => quotient_is a0 n0 c0 X0 b0 m0 d0 Y0 z (e + 1) _ _ ((e : Int) - 1074 + 1) w' hc0 hm0 k1 hd0 hk0 k2 HZ.out HX.out HY.out (by omega) (by omega) rfl rfl)
                have hbc : ((53 : Int) < ((bl Q : Nat) : Int)) = True := eq_true (by omega)
                clear hb
                go_wp2_with fail
                refine (rBits_any _ _ _ Q _ (by omega) sq).mono ?_
                rintro e5 w5 ⟨rfl, rfl⟩
                go_wp2_with fail
                refine (H2.out _ (sb hS0 hB hBW) (sb hT0 hB hBW)).mono ?_
                rintro e6 w6 ⟨a6, rfl, h6⟩
                have b6 := h6.below
                replace hBW := hBW.trans (b6.mono hBW.size)
                replace hL := hL.trans (b6.mono hL.size)
                replace q00 := below_cell b6 q00
                replace q01 := below_cell b6 q01
                replace q02 := below_cell b6 q02
                go_wp2_with fail
                go_roundg (quo z X0 Y0 (e + 1))
                case measure => rw [HN.out]; have := HK.out; omega
                case rel => exact ⟨e + 1, a6, by go_num, rfl, rfl, rfl, Or.inr (by rw [HN.out, show LD = 4503599627370496 from rfl]; omega), by rw [HN.out]; have := HQ.out; omega, h6.seg, hL⟩
              · have hsm : Q < 9007199254740992 := by omega
                have hb : ¬ 53 < bl Q := fun h => hbig (bl53.1 h)
                have hbc : ((53 : Int) < ((bl Q : Nat) : Int)) = False := eq_false (by omega)
                clear hb hbig
                go_wp2_with fail
                refine (rBits_any _ _ _ Q _ (by omega) sq).mono ?_
                rintro e5 w5 ⟨rfl, rfl⟩
                by_cases hle : e ≤ 2045
                · have hMet := HM.out hle HG.out (by rw [show 2 * LD = 9007199254740992 from rfl]; exact hsm)
                  have hE : (971 < (e : Int) - 1074) = False := eq_false (by omega)
                  obtain ⟨k, hk⟩ : ∃ k, e * LD + Q = k := ⟨_, rfl⟩
                  rw [hk] at hMet
                  have HC := hide' hMet.cut
                  have HI : Hid (decide (X0 * T = amt k * Y0) = decide (L = 0)) := by show _ = _; rw [decide_eq_decide]; exact hMet.is
                  clear hMet HM HF
                  have hv : smV Q = Q := smV_of (by omega)
                  have HS := hide' (fun w' k => rSmall_any aq (ln Q) (ln Q) Q w' (by omega) k)
                  rw [hv] at HS
                  clear hv
                  go_wp2_with fail
                  refine (HS.out _ sq).mono ?_
                  rintro e w5 ⟨rfl, b5⟩
                  replace hBW := hBW.trans (b5.mono hBW.size)
                  replace hL := hL.trans (b5.mono hL.size)
                  replace q00 := below_cell b5 q00
                  replace q01 := below_cell b5 q01
                  replace q02 := below_cell b5 q02
                  by_cases hl : Q < 4503599627370496
                  · have hlc : ((Q : Int) < 4503599627370496) = True := eq_true (by omega)
                    have HE := hide' (low_k HG.out hl hk)
                    clear hk hl
                    go_wp2
                    go_ret2
                    exact ⟨k, by rw [HI.out]; exact ret_ib (by rw [HE.out]), HC.out, hB.trans (hBW.mono hB.size)⟩
                  · have hlc : ((Q : Int) < 4503599627370496) = False := eq_false (by omega)
                    rw [show LD = 4503599627370496 from rfl] at hk
                    have HE := hide' hk
                    clear hk
                    go_wp2
                    go_ret2
                    exact ⟨k, by rw [HI.out, ← HE.out]; exact ret_ib (by omega), HC.out, hB.trans (hBW.mono hB.size)⟩
                · obtain ⟨y, hyd⟩ : ∃ y : Nat, y = 1024 := ⟨_, rfl⟩
                  have hE : (971 < (e : Int) - 1074) = True := eq_true (by omega)
                  obtain ⟨hcut, hrs, _⟩ := far_cut (N := X0) (D := Y0) (y := y) HT.out (by have := HZ.out; omega) (by have := HY.out; omega) (HF.out y (HG.out.resolve_left (by omega)) (by have := HZ.out; omega))
                  have HH : Hid (Ending.returned (.tuple #[.int .u64 9218868437227405311, .bool false]) = .returned (.tuple #[.int .u64 ((FI - 1 : Nat) : Int), .bool (decide (X0 * T = amt (FI - 1) * Y0))])) := by show _ = _; rw [is_of hrs]; rfl
                  have HC := hide' hcut
                  clear hcut hrs hyd HM HF hle
                  go_wp2
                  go_ret2
                  exact ⟨_, HH.out, HC.out, hB.trans (hBW.mono hB.size)⟩
          · obtain ⟨e0, he0⟩ : ∃ e0 : Nat, ((bl X0 : Nat) : Int) - ((bl Y0 : Nat) : Int) - 54 = (e0 : Int) - 1074 := ⟨bl X0 + 1020 - bl Y0, by omega⟩
            have hg0 : Hid (e0 = 0 ∨ LD ≤ quo z X0 Y0 e0) := Or.inr (st_ge HX.out HY.out HZ.out (by omega))
            have hlc : ((e0 : Int) - 1074 < -1074) = False := eq_false (by omega)
            have heb0 : e0 ≤ 2050 := by omega
            have hq0 := hide' (s5_lt HX.out HY.out HZ.out (e := e0) (by omega))
            have H1 := hide' (fun w' k1 k2 => quotient_is a0 n0 c0 X0 b0 m0 d0 Y0 z e0 _ _ ((e0 : Int) - 1074) w' hc0 hm0 k1 hd0 hk0 k2 HZ.out HX.out HY.out (by omega) (by omega) rfl rfl)
            go_wp2_with fail
            refine (H1.out _ (sb hS0 hB hBW) (sb hT0 hB hBW)).mono ?_
            rintro e4 w4 ⟨a4, rfl, h4⟩
            have b4 := h4.below
            have s4 := h4.seg
            clear h4
            replace hBW := hBW.trans (b4.mono hBW.size)
            replace q00 := below_cell b4 q00
            replace q01 := below_cell b4 q01
            replace q02 := below_cell b4 q02
            go_wp2_with fail
            go_loopg [5, 6, 7] (quo z X0 Y0 e0) (fun k v5 v6 v7 wr => ∃ e aq, v5 = .int .i64 ((e : Nat) - 1074 : Int) ∧ v6 = .slice aq (ln (quo z X0 Y0 e)) (ln (quo z X0 Y0 e)) ∧ v7 = .bool (decide (lef z X0 Y0 e = 0)) ∧ quo z X0 Y0 e = k ∧ (e = 0 ∨ LD ≤ quo z X0 Y0 e) ∧ ((e = e0 ∧ quo z X0 Y0 e < 36028797018963968) ∨ (e = e0 + 1 ∧ quo z X0 Y0 e < 18014398509481984) ∨ (e = e0 + 2 ∧ quo z X0 Y0 e < 9007199254740992)) ∧ Seg wr aq (quo z X0 Y0 e) (ln (quo z X0 Y0 e)) ∧ Below w4.heap.size w4 wr)
            case atStart => exact ⟨e0, a4, rfl, rfl, rfl, rfl, hg0.out, Or.inl ⟨rfl, hq0.out⟩, s4, Below.refl _ _⟩
            case round =>
              clear hq0 hg0 s4 H1
              clear he0 hlc
              obtain ⟨e, aq, rfl, rfl, rfl, hqk, hg, hq, sq, hL⟩ := hrel
              replace hBW := hBW.trans (hL.mono hBW.size)
              replace q00 := below_cell hL q00
              replace q01 := below_cell hL q01
              replace q02 := below_cell hL q02
              obtain ⟨Q, hQ⟩ : ∃ Q, quo z X0 Y0 e = Q := ⟨_, rfl⟩
              obtain ⟨L, hLd⟩ : ∃ L, lef z X0 Y0 e = L := ⟨_, rfl⟩
              have HN := hide' (quo_succ z X0 Y0 e)
              have HM := hide' (fun h1 h2 h3 => met_quo (N := X0) (D := Y0) (e := e) HT.out (by have := HY.out; omega) h1 h2 h3)
              have HF := hide' (fun y h1 h2 => quo_far (z := z) (N := X0) (D := Y0) (e := e) (y := y) (t := 52) (by have := HY.out; omega) h1 h2)
              rw [hQ] at sq hqk hg hq HN HM HF
              rw [hLd] at HM
              rw [hQ, hLd]
              have heb : e ≤ 2100 := by omega
              have HK := hide' hqk
              have HG := hide' hg
              have HQ := hide' hq
              have HQd := hide' hQ
              have HLd := hide' hLd
              have lQ : ln Q ≤ 2 := ln_le_of_lt (by rw [BB2]; omega)
              clear hqk hg hq hQ hLd
              by_cases hbig : 9007199254740992 ≤ Q
              · have hb : 53 < bl Q := bl53.2 hbig
                have H2 := hide' (fun w' k1 k2 => quotient_is a0 n0 c0 X0 b0 m0 d0 Y0 z (e + 1) _ _ ((e : Int) - 1074 + 1) w' hc0 hm0 k1 hd0 hk0 k2 HZ.out HX.out HY.out (by omega) (by omega) rfl rfl)
                have hbc : ((53 : Int) < ((bl Q : Nat) : Int)) = True := eq_true (by omega)
                clear hb
                go_wp2_with fail
                refine (rBits_any _ _ _ Q _ (by omega) sq).mono ?_
                rintro e5 w5 ⟨rfl, rfl⟩
                go_wp2_with fail
                refine (H2.out _ (sb hS0 hB hBW) (sb hT0 hB hBW)).mono ?_
                rintro e6 w6 ⟨a6, rfl, h6⟩
                have b6 := h6.below
                replace hBW := hBW.trans (b6.mono hBW.size)
                replace hL := hL.trans (b6.mono hL.size)
                replace q00 := below_cell b6 q00
                replace q01 := below_cell b6 q01
                replace q02 := below_cell b6 q02
                go_wp2_with fail
                go_roundg (quo z X0 Y0 (e + 1))
                case measure => rw [HN.out]; have := HK.out; omega
                case rel => exact ⟨e + 1, a6, by go_num, rfl, rfl, rfl, Or.inr (by rw [HN.out, show LD = 4503599627370496 from rfl]; omega), by rw [HN.out]; have := HQ.out; omega, h6.seg, hL⟩
              · have hsm : Q < 9007199254740992 := by omega
                have hb : ¬ 53 < bl Q := fun h => hbig (bl53.1 h)
                have hbc : ((53 : Int) < ((bl Q : Nat) : Int)) = False := eq_false (by omega)
                clear hb hbig
                go_wp2_with fail
                refine (rBits_any _ _ _ Q _ (by omega) sq).mono ?_
                rintro e5 w5 ⟨rfl, rfl⟩
                by_cases hle : e ≤ 2045
                · have hMet := HM.out hle HG.out (by rw [show 2 * LD = 9007199254740992 from rfl]; exact hsm)
                  have hE : (971 < (e : Int) - 1074) = False := eq_false (by omega)
                  obtain ⟨k, hk⟩ : ∃ k, e * LD + Q = k := ⟨_, rfl⟩
                  rw [hk] at hMet
                  have HC := hide' hMet.cut
                  have HI : Hid (decide (X0 * T = amt k * Y0) = decide (L = 0)) := by show _ = _; rw [decide_eq_decide]; exact hMet.is
                  clear hMet HM HF
                  have hv : smV Q = Q := smV_of (by omega)
                  have HS := hide' (fun w' k => rSmall_any aq (ln Q) (ln Q) Q w' (by omega) k)
                  rw [hv] at HS
                  clear hv
                  go_wp2_with fail
                  refine (HS.out _ sq).mono ?_
                  rintro e w5 ⟨rfl, b5⟩
                  replace hBW := hBW.trans (b5.mono hBW.size)
                  replace hL := hL.trans (b5.mono hL.size)
                  replace q00 := below_cell b5 q00
                  replace q01 := below_cell b5 q01
                  replace q02 := below_cell b5 q02
                  by_cases hl : Q < 4503599627370496
                  · have hlc : ((Q : Int) < 4503599627370496) = True := eq_true (by omega)
                    have HE := hide' (low_k HG.out hl hk)
                    clear hk hl
                    go_wp2
                    go_ret2
                    exact ⟨k, by rw [HI.out]; exact ret_ib (by rw [HE.out]), HC.out, hB.trans (hBW.mono hB.size)⟩
                  · have hlc : ((Q : Int) < 4503599627370496) = False := eq_false (by omega)
                    rw [show LD = 4503599627370496 from rfl] at hk
                    have HE := hide' hk
                    clear hk
                    go_wp2
                    go_ret2
                    exact ⟨k, by rw [HI.out, ← HE.out]; exact ret_ib (by omega), HC.out, hB.trans (hBW.mono hB.size)⟩
                · obtain ⟨y, hyd⟩ : ∃ y : Nat, y = 1024 := ⟨_, rfl⟩
                  have hE : (971 < (e : Int) - 1074) = True := eq_true (by omega)
                  obtain ⟨hcut, hrs, _⟩ := far_cut (N := X0) (D := Y0) (y := y) HT.out (by have := HZ.out; omega) (by have := HY.out; omega) (HF.out y (HG.out.resolve_left (by omega)) (by have := HZ.out; omega))
                  have HH : Hid (Ending.returned (.tuple #[.int .u64 9218868437227405311, .bool false]) = .returned (.tuple #[.int .u64 ((FI - 1 : Nat) : Int), .bool (decide (X0 * T = amt (FI - 1) * Y0))])) := by show _ = _; rw [is_of hrs]; rfl
                  have HC := hide' hcut
                  clear hcut hrs hyd HM HF hle
                  go_wp2
                  go_ret2
                  exact ⟨_, HH.out, HC.out, hB.trans (hBW.mono hB.size)⟩
end Go.Proofs.Yticdpbkbnflgbaa
