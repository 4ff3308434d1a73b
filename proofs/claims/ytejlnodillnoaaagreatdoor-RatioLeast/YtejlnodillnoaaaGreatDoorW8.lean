/-
  mulInto by induction on the lengths, Mul.
-/
import Derived.Test.YtejlnodillnoaaaGreatDoorW7
namespace Go.Proofs.YtejlnodillnoaaaGreatDoor
open Go.RowKit
set_option linter.unusedVariables false

theorem hide' {p : Prop} (h : p) : Hid p := h

set_option maxHeartbeats 4000000 in
theorem mulInto_keep {N : Nat} (ok : MulOk N) (b off L cap b1 o1 n cap1 X b2 o2 m cap2 Y : Nat) (w : World) (hn : 0 < n) (hm : 0 < m) (hN : n + m ≤ N + 1) (hL : L = n + m) (hLL : L ≤ 70368744177664) (hcap : L ≤ cap) (hc1 : n ≤ cap1) (hc2 : m ≤ cap2) (hb1 : b1 ≠ b) (hb2 : b2 ≠ b) (hrow : Row w b)
    (hS : Seg w (some ⟨b, off, none⟩) 0 L) (hX : Seg w (some ⟨b1, o1, none⟩) X n) (hY : Seg w (some ⟨b2, o2, none⟩) Y m) (hnm : ¬ n < m) :
    Calls Tryz.prog 116 #[.slice (some ⟨b, off, none⟩) L cap, .slice (some ⟨b1, o1, none⟩) n cap1, .slice (some ⟨b2, o2, none⟩) m cap2] w fun e w' => e = .returned (.tuple #[]) ∧ Wr b off (off + L) w w' ∧ Seg w' (some ⟨b, off, none⟩) (X * Y) L := by
  obtain ⟨h, hh1, hh2⟩ : ∃ h, 2 * h ≤ n + 1 ∧ n ≤ 2 * h := ⟨(n + 1) / 2, by omega, by omega⟩
  have hhalf : ((n : Int) + 1) / 2 = (h : Int) := by omega
  have hLa : L ≤ n + m := by omega
  have hLb : n + m ≤ L := by omega
  have hLe : Hid (L = n + m) := hL
  clear hL
  have hbw := hrow.lt
  by_cases h64 : m < 64
  · have hS' : Seg w (some ⟨b, off, none⟩) 0 (n + m) := by rw [show n + m = L by have := hLe.out; omega]; exact hS
    have ML : Calls Tryz.prog 132 #[.slice (some ⟨b, off, none⟩) L cap, .slice (some ⟨b1, o1, none⟩) n cap1, .slice (some ⟨b2, o2, none⟩) m cap2] w fun e w' => e = .returned (.tuple #[]) ∧ Wr b off (off + L) w w' ∧ Seg w' (some ⟨b, off, none⟩) (X * Y) L := by
      have := mulByLimbs_any b off n cap (some ⟨b1, o1, none⟩) (some ⟨b2, o2, none⟩) cap1 X m cap2 Y w (by omega) (by omega) (by omega) hrow hS' hX hY (ne_addr hb1) (ne_addr hb2)
      rw [show n + m = L by have := hLe.out; omega] at this
      exact this
    have HML := hide' ML
    clear ML
    go_enter Tryz.func116, Tryz.ntmps116
    go_wp2_with fail
    refine HML.out.mono ?_
    rintro e w1 ⟨rfl, r1, r2⟩
    clear HML
    go_wp2
    go_end0
    exact ⟨rfl, r1, r2⟩
  · by_cases hmh : m ≤ h
    · have s1 := sl_h (some ⟨b, off, none⟩) L cap (h + m) ((h : Int) + (m : Int)) (by omega) (by omega)
      have s2 := sl_h (some ⟨b1, o1, none⟩) n cap1 h (h : Int) rfl (by omega)
      have s3 := sl_l b off L cap h (h : Int) rfl (by omega) (by omega)
      have s4 := sl_l b1 o1 n cap1 h (h : Int) rfl (by omega) (by omega)
      have hv : 0 ≤ (h : Int) + (m : Int) ∧ (h : Int) + (m : Int) ≤ 9223372036854775807 := by omega
      have OK1 : ∀ W, Dr w W → Calls Tryz.prog 116 #[.slice (some ⟨b, off, none⟩) (h + m) cap, .slice (some ⟨b1, o1, none⟩) h cap1, .slice (some ⟨b2, o2, none⟩) m cap2] W fun e w' => e = .returned (.tuple #[]) ∧ Wr b off (off + (h + m)) W w' ∧ Seg w' (some ⟨b, off, none⟩) (X % BB ^ h * Y) (h + m) :=
        fun W hW => ok b off (h + m) cap b1 o1 h cap1 _ b2 o2 m cap2 _ W (by omega) (by omega) (by omega) rfl (by omega) (by omega) (by omega) (by omega) hb1 hb2 (hrow.dr hW) (by have := (hS.dr hW).take (h + m) (by omega); rwa [Nat.zero_mod] at this) ((hX.take h (by omega)).dr hW) (hY.dr hW)
      have HOK := hide' OK1
      clear OK1
      go_enter Tryz.func116, Tryz.ntmps116
      go_wp2_with fail
      have v1 := wrap64_small hv.1 hv.2
      have v2 := wrap_i64_small hv.1 hv.2
      clear hv
      go_region_with (go_at_call 116; refine (HOK.out _ ?_).mono ?_; exact (Dr.refl _).drew; rintro e w1 ⟨rfl, hwA, hsA⟩)
      clear HOK v1 v2
      have hA : Wr b off (off + L) w w1 := (Wr.drew (Wr.refl _ _ _ _)).trans (hwA.mono (by omega) (by omega))
      have hS1 : Seg w1 (some ⟨b, off, none⟩) (X % BB ^ h * Y) L := by
        have := (hS.drew).splice (i := 0) (by rw [Nat.add_zero]; exact hwA) (by rw [Nat.add_zero]; exact hsA) (by omega) (by omega)
        rwa [show put 0 0 (h + m) (X % BB ^ h * Y) = X % BB ^ h * Y from put_zero_low (BBp _) hsA.1] at this
      have hX1 := hX.wr hA (ne_addr hb1)
      have hY1 := hY.wr hA (ne_addr hb2)
      have hXY : X * Y < BB ^ L := Nat.lt_of_lt_of_le (mul_lt_pow hX.1 hY.1) (pow_mono (by omega))
      obtain ⟨C, hC⟩ : ∃ C, C = X % BB ^ h * Y := ⟨_, rfl⟩
      rw [← hC] at hS1
      obtain ⟨P, hP⟩ : ∃ P, P = X / BB ^ h * Y := ⟨_, rfl⟩
      have hsum : (C / BB ^ h + P) * BB ^ h + C % BB ^ h = X * Y := by
        have e1 := split_at C h
        have e2 : X * Y = P * BB ^ h + C := by
          rw [hP, hC, Nat.mul_right_comm, ← Nat.add_mul, ← split_at]
        rw [e2, Nat.add_mul]; omega
      have hDlt : C / BB ^ h + P < BB ^ (L - h) := by
        have e : BB ^ L = BB ^ (L - h) * BB ^ h := by rw [← Nat.pow_add, Nat.sub_add_cancel (by omega)]
        rw [e] at hXY
        exact Nat.lt_of_mul_lt_mul_right (a := BB ^ h) (Nat.lt_of_le_of_lt (Nat.le.intro hsum) hXY)
      have hbw1 : b < w1.heap.size := Nat.lt_of_lt_of_le hbw hA.size
      have PR : ∀ W, Dr w1 W → Calls Tryz.prog 106 #[.slice (some ⟨b1, o1 + h, none⟩) (n - h) (cap1 - h), .slice (some ⟨b2, o2, none⟩) m cap2] W fun e w' => ∃ ao, e = .returned (.slice ao (n - h + m) (n - h + m)) ∧ New W w' ao P (n - h + m) := by
        intro W hW
        rw [hP]
        exact product_of ok _ _ _ _ _ _ _ _ _ _ W (by omega) (by omega) (by omega) (by omega) (by omega) (by omega) ((hX1.drop h (by omega)).dr hW) (hY1.dr hW)
      have ADD : ∀ a8 W W', Dr w1 W → New W W' a8 P (n - h + m) → Calls Tryz.prog 119 #[.slice (some ⟨b, off + h, none⟩) (L - h) (cap - h), .slice a8 (n - h + m) (n - h + m)] W' fun e w' => e = .returned (.tuple #[]) ∧ Wr b (off + h) (off + h + (L - h)) W' w' ∧ Seg w' (some ⟨b, off + h, none⟩) ((C / BB ^ h + P) % BB ^ (L - h)) (L - h) := by
        intro a8 W W' hW hN8
        obtain ⟨b8, o8, rfl, hf8, hr8⟩ := hN8.fresh (by omega)
        have hsz : W.heap.size = w1.heap.size := by obtain ⟨q, rfl⟩ := hW; rfl
        exact addInto_any _ _ _ _ _ _ _ _ P W' (by omega) (by omega) (((hA.row hrow).dr hW).below hN8.below (by omega)) (((hS1.dr hW).below hN8.below (Nat.le_refl _)).drop h (by omega)) hN8.seg (ne_addr (by omega))
      have FIN : Hid (∀ a8 W W' w', Dr w1 W → New W W' a8 P (n - h + m) → Wr b (off + h) (off + h + (L - h)) W' w' → Seg w' (some ⟨b, off + h, none⟩) ((C / BB ^ h + P) % BB ^ (L - h)) (L - h) → Wr b off (off + L) w w' ∧ Seg w' (some ⟨b, off, none⟩) (X * Y) L) := by
        intro a8 W W' w' hW hN8 hw hs
        have hsz : W.heap.size = w1.heap.size := by obtain ⟨q, rfl⟩ := hW; rfl
        refine ⟨hA.trans ((Wr.of_dr hW).trans ((Wr.of_below hN8.below (by omega)).trans (hw.mono (by omega) (by omega)))), ?_⟩
        rw [Nat.mod_eq_of_lt hDlt] at hs
        have := ((hS1.dr hW).below hN8.below (Nat.le_refl _)).splice (i := h) hw hs (by omega) (by omega)
        rw [put_high (by rw [Nat.add_sub_cancel' (by omega)]; exact hS1.1), hsum] at this
        exact this
      clear hsum hDlt hXY hC hP
      have HPR := hide' PR
      have HADD := hide' ADD
      clear PR ADD
      go_wp2_with fail
      go_region_with (first | (go_at_call 106; refine (HPR.out _ ?_).mono ?_; exact (Dr.refl _).drew; rintro e w8 ⟨a8, rfl, hN8⟩) | (go_at_call 119; refine (HADD.out _ _ _ ?_ hN8).mono ?_; exact (Dr.refl _).drew; rintro e w9 ⟨rfl, hwE, hsE⟩))
      clear HPR HADD
      all_goals go_wp2
      all_goals go_end0
      all_goals exact ⟨rfl, FIN.out _ _ _ _ (Dr.refl _).drew hN8 hwE hsE⟩
    · have MH : Calls Tryz.prog 133 #[.slice (some ⟨b, off, none⟩) L cap, .slice (some ⟨b1, o1, none⟩) n cap1, .slice (some ⟨b2, o2, none⟩) m cap2, .int .i64 h] w fun e w' => e = .returned (.tuple #[]) ∧ Wr b off (off + L) w w' ∧ Seg w' (some ⟨b, off, none⟩) (X * Y) L := by
        have := mulByHalves_of ok b off L cap b1 o1 n cap1 X b2 o2 m cap2 Y h w (by omega) (by omega) (by omega) (by omega) (by omega) (by omega) (by have := hLe.out; omega) (by omega) (by omega) (by omega) (by omega) hb1 hb2 hrow hS hX hY
        exact this
      have HMH := hide' MH
      clear MH
      go_enter Tryz.func116, Tryz.ntmps116
      go_wp2_with fail
      refine HMH.out.mono ?_
      rintro e w1 ⟨rfl, r1, r2⟩
      clear HMH
      go_wp2
      go_end0
      exact ⟨rfl, r1, r2⟩

set_option maxHeartbeats 4000000 in
theorem mulInto_swap {N : Nat} (ok : MulOk N) (b off L cap b1 o1 n cap1 X b2 o2 m cap2 Y : Nat) (w : World) (hn : 0 < n) (hm : 0 < m) (hN : n + m ≤ N + 1) (hL : L = n + m) (hLL : L ≤ 70368744177664) (hcap : L ≤ cap) (hc1 : n ≤ cap1) (hc2 : m ≤ cap2) (hb1 : b1 ≠ b) (hb2 : b2 ≠ b) (hrow : Row w b)
    (hS : Seg w (some ⟨b, off, none⟩) 0 L) (hX : Seg w (some ⟨b1, o1, none⟩) X n) (hY : Seg w (some ⟨b2, o2, none⟩) Y m) (hnm : n < m) :
    Calls Tryz.prog 116 #[.slice (some ⟨b, off, none⟩) L cap, .slice (some ⟨b1, o1, none⟩) n cap1, .slice (some ⟨b2, o2, none⟩) m cap2] w fun e w' => e = .returned (.tuple #[]) ∧ Wr b off (off + L) w w' ∧ Seg w' (some ⟨b, off, none⟩) (X * Y) L := by
  obtain ⟨h, hh1, hh2⟩ : ∃ h, 2 * h ≤ m + 1 ∧ m ≤ 2 * h := ⟨(m + 1) / 2, by omega, by omega⟩
  have hhalf : ((m : Int) + 1) / 2 = (h : Int) := by omega
  have hLa : L ≤ n + m := by omega
  have hLb : n + m ≤ L := by omega
  have hLe : Hid (L = n + m) := hL
  clear hL
  have hbw := hrow.lt
  by_cases h64 : n < 64
  · have hS' : Seg w (some ⟨b, off, none⟩) 0 (m + n) := by rw [show m + n = L by have := hLe.out; omega]; exact hS
    have ML : Calls Tryz.prog 132 #[.slice (some ⟨b, off, none⟩) L cap, .slice (some ⟨b2, o2, none⟩) m cap2, .slice (some ⟨b1, o1, none⟩) n cap1] w fun e w' => e = .returned (.tuple #[]) ∧ Wr b off (off + L) w w' ∧ Seg w' (some ⟨b, off, none⟩) (X * Y) L := by
      have := mulByLimbs_any b off m cap (some ⟨b2, o2, none⟩) (some ⟨b1, o1, none⟩) cap2 Y n cap1 X w (by omega) (by omega) (by omega) hrow hS' hY hX (ne_addr hb2) (ne_addr hb1)
      rw [show m + n = L by have := hLe.out; omega] at this
      rwa [Nat.mul_comm Y X] at this
    have HML := hide' ML
    clear ML
    go_enter Tryz.func116, Tryz.ntmps116
    go_wp2_with fail
    refine HML.out.mono ?_
    rintro e w1 ⟨rfl, r1, r2⟩
    clear HML
    go_wp2
    go_end0
    exact ⟨rfl, r1, r2⟩
  · by_cases hmh : n ≤ h
    · have s1 := sl_h (some ⟨b, off, none⟩) L cap (h + n) ((h : Int) + (n : Int)) (by omega) (by omega)
      have s2 := sl_h (some ⟨b2, o2, none⟩) m cap2 h (h : Int) rfl (by omega)
      have s3 := sl_l b off L cap h (h : Int) rfl (by omega) (by omega)
      have s4 := sl_l b2 o2 m cap2 h (h : Int) rfl (by omega) (by omega)
      have hv : 0 ≤ (h : Int) + (n : Int) ∧ (h : Int) + (n : Int) ≤ 9223372036854775807 := by omega
      have OK1 : ∀ W, Dr w W → Calls Tryz.prog 116 #[.slice (some ⟨b, off, none⟩) (h + n) cap, .slice (some ⟨b2, o2, none⟩) h cap2, .slice (some ⟨b1, o1, none⟩) n cap1] W fun e w' => e = .returned (.tuple #[]) ∧ Wr b off (off + (h + n)) W w' ∧ Seg w' (some ⟨b, off, none⟩) (Y % BB ^ h * X) (h + n) :=
        fun W hW => ok b off (h + n) cap b2 o2 h cap2 _ b1 o1 n cap1 _ W (by omega) (by omega) (by omega) rfl (by omega) (by omega) (by omega) (by omega) hb2 hb1 (hrow.dr hW) (by have := (hS.dr hW).take (h + n) (by omega); rwa [Nat.zero_mod] at this) ((hY.take h (by omega)).dr hW) (hX.dr hW)
      have HOK := hide' OK1
      clear OK1
      go_enter Tryz.func116, Tryz.ntmps116
      go_wp2_with fail
      have v1 := wrap64_small hv.1 hv.2
      have v2 := wrap_i64_small hv.1 hv.2
      clear hv
      go_region_with (go_at_call 116; refine (HOK.out _ ?_).mono ?_; exact (Dr.refl _).drew; rintro e w1 ⟨rfl, hwA, hsA⟩)
      clear HOK v1 v2
      have hA : Wr b off (off + L) w w1 := (Wr.drew (Wr.refl _ _ _ _)).trans (hwA.mono (by omega) (by omega))
      have hS1 : Seg w1 (some ⟨b, off, none⟩) (Y % BB ^ h * X) L := by
        have := (hS.drew).splice (i := 0) (by rw [Nat.add_zero]; exact hwA) (by rw [Nat.add_zero]; exact hsA) (by omega) (by omega)
        rwa [show put 0 0 (h + n) (Y % BB ^ h * X) = Y % BB ^ h * X from put_zero_low (BBp _) hsA.1] at this
      have hX1 := hY.wr hA (ne_addr hb2)
      have hY1 := hX.wr hA (ne_addr hb1)
      have hXY : Y * X < BB ^ L := Nat.lt_of_lt_of_le (mul_lt_pow hY.1 hX.1) (pow_mono (by omega))
      obtain ⟨C, hC⟩ : ∃ C, C = Y % BB ^ h * X := ⟨_, rfl⟩
      rw [← hC] at hS1
      obtain ⟨P, hP⟩ : ∃ P, P = Y / BB ^ h * X := ⟨_, rfl⟩
      have hsum : (C / BB ^ h + P) * BB ^ h + C % BB ^ h = Y * X := by
        have e1 := split_at C h
        have e2 : Y * X = P * BB ^ h + C := by
          rw [hP, hC, Nat.mul_right_comm, ← Nat.add_mul, ← split_at]
        rw [e2, Nat.add_mul]; omega
      have hDlt : C / BB ^ h + P < BB ^ (L - h) := by
        have e : BB ^ L = BB ^ (L - h) * BB ^ h := by rw [← Nat.pow_add, Nat.sub_add_cancel (by omega)]
        rw [e] at hXY
        exact Nat.lt_of_mul_lt_mul_right (a := BB ^ h) (Nat.lt_of_le_of_lt (Nat.le.intro hsum) hXY)
      have hbw1 : b < w1.heap.size := Nat.lt_of_lt_of_le hbw hA.size
      have PR : ∀ W, Dr w1 W → Calls Tryz.prog 106 #[.slice (some ⟨b2, o2 + h, none⟩) (m - h) (cap2 - h), .slice (some ⟨b1, o1, none⟩) n cap1] W fun e w' => ∃ ao, e = .returned (.slice ao (m - h + n) (m - h + n)) ∧ New W w' ao P (m - h + n) := by
        intro W hW
        rw [hP]
        exact product_of ok _ _ _ _ _ _ _ _ _ _ W (by omega) (by omega) (by omega) (by omega) (by omega) (by omega) ((hX1.drop h (by omega)).dr hW) (hY1.dr hW)
      have ADD : ∀ a8 W W', Dr w1 W → New W W' a8 P (m - h + n) → Calls Tryz.prog 119 #[.slice (some ⟨b, off + h, none⟩) (L - h) (cap - h), .slice a8 (m - h + n) (m - h + n)] W' fun e w' => e = .returned (.tuple #[]) ∧ Wr b (off + h) (off + h + (L - h)) W' w' ∧ Seg w' (some ⟨b, off + h, none⟩) ((C / BB ^ h + P) % BB ^ (L - h)) (L - h) := by
        intro a8 W W' hW hN8
        obtain ⟨b8, o8, rfl, hf8, hr8⟩ := hN8.fresh (by omega)
        have hsz : W.heap.size = w1.heap.size := by obtain ⟨q, rfl⟩ := hW; rfl
        exact addInto_any _ _ _ _ _ _ _ _ P W' (by omega) (by omega) (((hA.row hrow).dr hW).below hN8.below (by omega)) (((hS1.dr hW).below hN8.below (Nat.le_refl _)).drop h (by omega)) hN8.seg (ne_addr (by omega))
      have FIN : Hid (∀ a8 W W' w', Dr w1 W → New W W' a8 P (m - h + n) → Wr b (off + h) (off + h + (L - h)) W' w' → Seg w' (some ⟨b, off + h, none⟩) ((C / BB ^ h + P) % BB ^ (L - h)) (L - h) → Wr b off (off + L) w w' ∧ Seg w' (some ⟨b, off, none⟩) (X * Y) L) := by
        intro a8 W W' w' hW hN8 hw hs
        have hsz : W.heap.size = w1.heap.size := by obtain ⟨q, rfl⟩ := hW; rfl
        refine ⟨hA.trans ((Wr.of_dr hW).trans ((Wr.of_below hN8.below (by omega)).trans (hw.mono (by omega) (by omega)))), ?_⟩
        rw [Nat.mod_eq_of_lt hDlt] at hs
        have := ((hS1.dr hW).below hN8.below (Nat.le_refl _)).splice (i := h) hw hs (by omega) (by omega)
        rw [put_high (by rw [Nat.add_sub_cancel' (by omega)]; exact hS1.1), hsum] at this
        rwa [Nat.mul_comm Y X] at this
      clear hsum hDlt hXY hC hP
      have HPR := hide' PR
      have HADD := hide' ADD
      clear PR ADD
      go_wp2_with fail
      go_region_with (first | (go_at_call 106; refine (HPR.out _ ?_).mono ?_; exact (Dr.refl _).drew; rintro e w8 ⟨a8, rfl, hN8⟩) | (go_at_call 119; refine (HADD.out _ _ _ ?_ hN8).mono ?_; exact (Dr.refl _).drew; rintro e w9 ⟨rfl, hwE, hsE⟩))
      clear HPR HADD
      all_goals go_wp2
      all_goals go_end0
      all_goals exact ⟨rfl, FIN.out _ _ _ _ (Dr.refl _).drew hN8 hwE hsE⟩
    · have MH : Calls Tryz.prog 133 #[.slice (some ⟨b, off, none⟩) L cap, .slice (some ⟨b2, o2, none⟩) m cap2, .slice (some ⟨b1, o1, none⟩) n cap1, .int .i64 h] w fun e w' => e = .returned (.tuple #[]) ∧ Wr b off (off + L) w w' ∧ Seg w' (some ⟨b, off, none⟩) (X * Y) L := by
        have := mulByHalves_of ok b off L cap b2 o2 m cap2 Y b1 o1 n cap1 X h w (by omega) (by omega) (by omega) (by omega) (by omega) (by omega) (by have := hLe.out; omega) (by omega) (by omega) (by omega) (by omega) hb2 hb1 hrow hS hY hX
        rwa [Nat.mul_comm Y X] at this
      have HMH := hide' MH
      clear MH
      go_enter Tryz.func116, Tryz.ntmps116
      go_wp2_with fail
      refine HMH.out.mono ?_
      rintro e w1 ⟨rfl, r1, r2⟩
      clear HMH
      go_wp2
      go_end0
      exact ⟨rfl, r1, r2⟩


theorem mulOk : ∀ N, MulOk N
  | 0 => by intro b off L cap b1 o1 n cap1 X b2 o2 m cap2 Y w hn hm hN; omega
  | N + 1 => by
    intro b off L cap b1 o1 n cap1 X b2 o2 m cap2 Y w hn hm hN hL hLL hcap hc1 hc2 hb1 hb2 hrow hS hX hY
    by_cases hnm : n < m
    · exact mulInto_swap (mulOk N) b off L cap b1 o1 n cap1 X b2 o2 m cap2 Y w hn hm hN hL hLL hcap hc1 hc2 hb1 hb2 hrow hS hX hY hnm
    · exact mulInto_keep (mulOk N) b off L cap b1 o1 n cap1 X b2 o2 m cap2 Y w hn hm hN hL hLL hcap hc1 hc2 hb1 hb2 hrow hS hX hY hnm

set_option maxHeartbeats 1000000 in
theorem Mul_any (ao ao2 : Option Addr) (n cap X m cap2 Y : Nat) (w : World) (hc : n ≤ cap) (hm : n ≤ 35184372088832) (hS : Seg w ao X n) (hc2 : m ≤ cap2) (hm2 : m ≤ 35184372088832) (hS2 : Seg w ao2 Y m) :
    Calls Tryz.prog 93 #[.slice ao n cap, .slice ao2 m cap2] w fun e w' => ∃ ao', e = .returned (.slice ao' (ln (X * Y)) (ln (X * Y))) ∧ New w w' ao' (X * Y) (ln (X * Y)) := by
  have hl := ln_le_of_lt hS.1
  have hl2 := ln_le_of_lt hS2.1
  by_cases h0 : X = 0
  · subst h0
    have hb : (((ln 0 : Nat) : Int) == 0) = true := by rw [ln_zero]; rfl
    rw [Nat.zero_mul]
    go_enter Tryz.func93, Tryz.ntmps93
    go_wp2_with fail
    refine (trim_any _ _ _ 0 _ hc (by omega) hS).mono ?_
    rintro e w' ⟨a1, rfl, rfl, ht⟩
    go_wp2_with fail
    refine (trim_any _ _ _ Y _ hc2 (by omega) hS2).mono ?_
    rintro e w' ⟨a2, rfl, rfl, ht2⟩
    go_wp2
    go_ret
    exact ⟨none, by rw [ln_zero]; rfl, by rw [ln_zero]; exact New.nil _ (Below.refl _ _)⟩
  · have hx0 : 0 < ln X := by have := mt ln_eq_zero.1 h0; omega
    have hbx : (((ln X : Nat) : Int) == 0) = false := by rw [beq_eq_false_iff_ne]; omega
    by_cases h1 : Y = 0
    · subst h1
      have hb : (((ln 0 : Nat) : Int) == 0) = true := by rw [ln_zero]; rfl
      rw [Nat.mul_zero]
      go_enter Tryz.func93, Tryz.ntmps93
      go_wp2_with fail
      refine (trim_any _ _ _ X _ hc (by omega) hS).mono ?_
      rintro e w' ⟨a1, rfl, rfl, ht⟩
      go_wp2_with fail
      refine (trim_any _ _ _ 0 _ hc2 (by omega) hS2).mono ?_
      rintro e w' ⟨a2, rfl, rfl, ht2⟩
      go_wp2
      go_ret
      exact ⟨none, by rw [ln_zero]; rfl, by rw [ln_zero]; exact New.nil _ (Below.refl _ _)⟩
    · have hy0 : 0 < ln Y := by have := mt ln_eq_zero.1 h1; omega
      have hby : (((ln Y : Nat) : Int) == 0) = false := by rw [beq_eq_false_iff_ne]; omega
      clear h0 h1
      go_enter Tryz.func93, Tryz.ntmps93
      go_wp2_with fail
      refine (trim_any _ _ _ X _ hc (by omega) hS).mono ?_
      rintro e w' ⟨a1, rfl, rfl, ht⟩
      have hT := hS.trm ht
      go_wp2_with fail
      refine (trim_any _ _ _ Y _ hc2 (by omega) hS2).mono ?_
      rintro e w' ⟨a2, rfl, rfl, ht2⟩
      have hT2 := hS2.trm ht2
      obtain ⟨b1, o1, rfl, hb1, _⟩ := hT.2 hx0
      obtain ⟨b2, o2, rfl, hb2, _⟩ := hT2.2 hy0
      go_wp2_with fail
      refine (product_of (mulOk (ln X + ln Y)) _ _ _ _ X _ _ _ _ Y _ hx0 hy0 (Nat.le_refl _) (by omega) (Nat.le_refl _) (Nat.le_refl _) hT hT2).mono ?_
      rintro e w3 ⟨a3, rfl, hn3⟩
      go_wp2_with fail
      refine (trim_any _ _ _ (X * Y) _ (Nat.le_refl _) (by omega) hn3.seg).mono ?_
      rintro e w4 ⟨a4, rfl, rfl, ht4⟩
      go_wp2
      go_ret
      exact ⟨_, rfl, hn3.trm ht4⟩
theorem Mul_is (ao ao2 : Option Addr) (n cap X m cap2 Y Z : Nat) (w : World) (hc : n ≤ cap) (hm : n ≤ 35184372088832) (hS : Seg w ao X n) (hc2 : m ≤ cap2) (hm2 : m ≤ 35184372088832) (hS2 : Seg w ao2 Y m) (hz : X * Y = Z) :
    Calls Tryz.prog 93 #[.slice ao n cap, .slice ao2 m cap2] w fun e w' => ∃ ao', e = .returned (.slice ao' (ln Z) (ln Z)) ∧ New w w' ao' Z (ln Z) := by
  subst hz; exact Mul_any ao ao2 n cap X m cap2 Y w hc hm hS hc2 hm2 hS2
theorem Add_is (ao ao2 : Option Addr) (n cap X m cap2 Y Z : Nat) (w : World) (hc : n ≤ cap) (hm : n ≤ 70368744177663) (hS : Seg w ao X n) (hc2 : m ≤ cap2) (hm2 : m ≤ 70368744177663) (hS2 : Seg w ao2 Y m) (hz : X + Y = Z) :
    Calls Tryz.prog 108 #[.slice ao n cap, .slice ao2 m cap2] w fun e w' => ∃ ao', e = .returned (.slice ao' (ln Z) (ln Z)) ∧ New w w' ao' Z (ln Z) := by
  subst hz; exact Add_any ao ao2 n cap X m cap2 Y w hc hm hS hc2 hm2 hS2
end Go.Proofs.YtejlnodillnoaaaGreatDoor
