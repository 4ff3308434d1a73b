/-
  The walks over addInto, subFrom, Add, Sub.
-/
import Derived.Test.YtejlnodillnoaaaGreatDoorW1
namespace Go.Proofs.YtejlnodillnoaaaGreatDoor
open Go.RowKit
set_option linter.unusedVariables false

theorem cast_mod {a b : Nat} {v : Int} (h : a % 4294967296 = b) (hv : v = (a : Int) % 4294967296) : v = (b : Nat) := by omega
theorem cast_div {a b : Nat} {v : Int} (h : a / 4294967296 = b) (hv : v = (a : Int) / 4294967296) : v = (b : Nat) := by omega

set_option maxHeartbeats 1000000 in
theorem addInto_any (b off n cap X : Nat) (ao : Option Addr) (m cap2 Y : Nat) (w : World) (hm : n ≤ 140737488355328) (hmn : m ≤ n) (hrow : Row w b) (hS : Seg w (some ⟨b, off, none⟩) X n) (hS2 : Seg w ao Y m) (hne : ∀ o, ao ≠ some ⟨b, o, none⟩) :
    Calls Tryz.prog 119 #[.slice (some ⟨b, off, none⟩) n cap, .slice ao m cap2] w fun e w' => e = .returned (.tuple #[]) ∧ Wr b off (off + n) w w' ∧ Seg w' (some ⟨b, off, none⟩) ((X + Y) % BB ^ n) n := by
  have HZ : Hid (∀ k w', k ≤ n → Seg w' (some ⟨b, off, none⟩) (mix (X + Y) X k) n → (k = n ∨ (m ≤ k ∧ cy X Y k = 0)) → Seg w' (some ⟨b, off, none⟩) ((X + Y) % BB ^ n) n) := by
    intro k w' hk hs hor
    refine hs.congr (Nat.mod_lt _ (BBp n)) fun i hi => ?_
    rw [dg_mod _ _ _ hi]
    by_cases hik : i < k
    · rw [dg_mix_lo _ _ hik]
    · rw [dg_mix_hi _ _ (by omega)]
      rcases hor with h | h
      · omega
      · exact add_dg_nocy (Nat.lt_of_lt_of_le hS2.1 (pow_mono h.1)) h.2 (by omega)
  go_enter Tryz.func119, Tryz.ntmps119
  go_wp2
  go_loopw [4, 11] (fun c i wr => ∃ k : Nat, k ≤ m ∧ i = .int .i64 k ∧ c = .int .u64 (cy X Y k : Nat) ∧ Wr b off (off + n) w wr ∧ Seg wr (some ⟨b, off, none⟩) (mix (X + Y) X k) n) (fun _ i _ => m - (intOf i).toNat)
  case atStart => exact ⟨0, Nat.zero_le _, rfl, by rw [cy_zero]; rfl, Wr.refl _ _ _ _, by rw [mix_zero]; exact hS⟩
  case round =>
    obtain ⟨k, hk, rfl, rfl, hwr, hseg⟩ := hrel
    have hcy := cy_le X Y k
    by_cases hlt : k < m
    · have hcx := hseg.rest
      have hfz := fun o => (hwr.row hrow).frozen o
      have hyr := hS2.wr hwr hne
      obtain ⟨b2, off2, rfl, hb2, hcell2⟩ := hyr.2 (by omega)
      have h1 := dg_lt X k
      have h2 := dg_lt Y k
      go_wp2
      go_quiet (fail)
      go_wp2
      go_roundw
      case rel =>
        have e1 := add_dg X Y k
        have e2 := add_cy X Y k
        refine ⟨k + 1, by omega, by go_num, ?_, ?_, ?_⟩
        · congr 1; omega
        · exact (hwr.drewN).setCell (off + k) (by omega) (by omega) _
        · exact (hseg.drewN).set (by omega) hS.1 (by omega)
      case measure => simp [intOf]; omega
    · have hkm : k = m := by omega
      subst hkm
      go_wp2
      go_loopw [4, 7] (fun c i wr2 => ∃ k2 : Nat, k ≤ k2 ∧ k2 ≤ n ∧ i = .int .i64 k2 ∧ c = .int .u64 (cy X Y k2 : Nat) ∧ Wr b off (off + n) w wr2 ∧ Seg wr2 (some ⟨b, off, none⟩) (mix (X + Y) X k2) n) (fun _ i _ => n - (intOf i).toNat)
      case atStart => exact ⟨k, Nat.le_refl _, hmn, rfl, rfl, hwr, hseg⟩
      case round =>
        clear hseg hwr hcy
        obtain ⟨k2, hk2, hkn, rfl, rfl, hwr, hseg⟩ := hrel
        have hcy := cy_le X Y k2
        by_cases hc0 : cy X Y k2 = 0
        · have hb0 : (((cy X Y k2 : Nat) : Int) != 0) = false := by rw [hc0]; simp
          have HC : Hid (cy X Y k2 = 0) := hc0
          clear hc0
          go_wp2
          go_end0
          exact ⟨rfl, hwr, HZ.out k2 _ hkn hseg (Or.inr ⟨hk2, HC.out⟩)⟩
        · have hb0 : (((cy X Y k2 : Nat) : Int) != 0) = true := by rw [bne_iff_ne]; omega
          by_cases hlt2 : k2 < n
          · have hcx := hseg.rest
            have hfz := fun o => (hwr.row hrow).frozen o
            have h1 := dg_lt X k2
            go_wp2
            go_roundw
            case rel =>
              have e1 := add_dg X Y k2
              have e2 := add_cy X Y k2
              have e3 : dg Y k2 = 0 := dg_big (Nat.lt_of_lt_of_le hS2.1 (pow_mono hk2))
              refine ⟨k2 + 1, by omega, by omega, by go_num, ?_, ?_, ?_⟩
              · congr 1; omega
              · exact hwr.setCell (off + k2) (by omega) (by omega) _
              · exact hseg.set hlt2 hS.1 (by omega)
            case measure => simp [intOf]; omega
          · go_wp2
            go_end0
            exact ⟨rfl, hwr, HZ.out k2 _ hkn hseg (Or.inl (by omega))⟩

theorem sub_val {x y c z d : Nat} (h : z + y + c = x + 4294967296 * d) (hx : x < 4294967296) (hy : y < 4294967296) (hz : z < 4294967296) (hc : c ≤ 1) (hd : d ≤ 1) :
    IntKind.u64.wrap (IntKind.u64.wrap ((x : Int) - (y : Int)) - (c : Int)) % 4294967296 = (z : Nat) ∧ IntKind.u64.wrap (IntKind.u64.wrap ((x : Int) - (y : Int)) - (c : Int)) / 9223372036854775808 = (d : Nat) := by
  rw [IntKind.wrap_u64, IntKind.wrap_u64]
  omega
theorem sub_val1 {x c z d : Nat} (h : z + c = x + 4294967296 * d) (hx : x < 4294967296) (hz : z < 4294967296) (hc : c ≤ 1) (hd : d ≤ 1) :
    IntKind.u64.wrap ((x : Int) - (c : Int)) % 4294967296 = (z : Nat) ∧ IntKind.u64.wrap ((x : Int) - (c : Int)) / 9223372036854775808 = (d : Nat) := by
  rw [IntKind.wrap_u64]
  omega

set_option maxHeartbeats 1000000 in
theorem subFrom_any (b off n cap X : Nat) (ao : Option Addr) (m cap2 Y : Nat) (w : World) (hm : n ≤ 140737488355328) (hmn : m ≤ n) (hrow : Row w b) (hS : Seg w (some ⟨b, off, none⟩) X n) (hS2 : Seg w ao Y m) (hne : ∀ o, ao ≠ some ⟨b, o, none⟩) (hle : Y ≤ X) :
    Calls Tryz.prog 120 #[.slice (some ⟨b, off, none⟩) n cap, .slice ao m cap2] w fun e w' => e = .returned (.tuple #[]) ∧ Wr b off (off + n) w w' ∧ Seg w' (some ⟨b, off, none⟩) (X - Y) n := by
  have HZ : Hid (∀ k w', k ≤ n → Seg w' (some ⟨b, off, none⟩) (mix (X - Y) X k) n → (k = n ∨ (m ≤ k ∧ bw X Y k = 0)) → Seg w' (some ⟨b, off, none⟩) (X - Y) n) := by
    intro k w' hk hs hor
    refine hs.congr (Nat.lt_of_le_of_lt (Nat.sub_le _ _) hS.1) fun i hi => ?_
    by_cases hik : i < k
    · rw [dg_mix_lo _ _ hik]
    · rw [dg_mix_hi _ _ (by omega)]
      rcases hor with h | h
      · omega
      · exact sub_dg_nobw hle (Nat.lt_of_lt_of_le hS2.1 (pow_mono h.1)) h.2 (by omega)
  have HL : Hid (Y ≤ X) := hle
  clear hle
  go_enter Tryz.func120, Tryz.ntmps120
  go_wp2
  go_loopw [4, 11] (fun c i wr => ∃ k : Nat, k ≤ m ∧ i = .int .i64 k ∧ c = .int .u64 (bw X Y k : Nat) ∧ Wr b off (off + n) w wr ∧ Seg wr (some ⟨b, off, none⟩) (mix (X - Y) X k) n) (fun _ i _ => m - (intOf i).toNat)
  case atStart => exact ⟨0, Nat.zero_le _, rfl, by rw [bw_zero]; rfl, Wr.refl _ _ _ _, by rw [mix_zero]; exact hS⟩
  case round =>
    obtain ⟨k, hk, rfl, rfl, hwr, hseg⟩ := hrel
    have hcy := bw_le X Y k
    by_cases hlt : k < m
    · have hcx := hseg.rest
      have hfz := fun o => (hwr.row hrow).frozen o
      have hyr := hS2.wr hwr hne
      obtain ⟨b2, off2, rfl, hb2, hcell2⟩ := hyr.2 (by omega)
      have h1 := dg_lt X k
      have h2 := dg_lt Y k
      go_wp2
      go_quiet (fail)
      go_wp2
      go_roundw
      case rel =>
        have e := sub_val (sub_step k HL.out) h1 h2 (dg_lt _ _) hcy (bw_le _ _ _)
        refine ⟨k + 1, by omega, by go_num, ?_, ?_, ?_⟩
        · rw [e.2]
        · exact (hwr.drewN).setCell (off + k) (by omega) (by omega) _
        · exact (hseg.drewN).set (by omega) hS.1 e.1
      case measure => simp [intOf]; omega
    · have hkm : k = m := by omega
      subst hkm
      go_wp2
      go_loopw [4, 7] (fun c i wr2 => ∃ k2 : Nat, k ≤ k2 ∧ k2 ≤ n ∧ i = .int .i64 k2 ∧ c = .int .u64 (bw X Y k2 : Nat) ∧ Wr b off (off + n) w wr2 ∧ Seg wr2 (some ⟨b, off, none⟩) (mix (X - Y) X k2) n) (fun _ i _ => n - (intOf i).toNat)
      case atStart => exact ⟨k, Nat.le_refl _, hmn, rfl, rfl, hwr, hseg⟩
      case round =>
        clear hseg hwr hcy
        obtain ⟨k2, hk2, hkn, rfl, rfl, hwr, hseg⟩ := hrel
        have hcy := bw_le X Y k2
        by_cases hc0 : bw X Y k2 = 0
        · have hb0 : (((bw X Y k2 : Nat) : Int) != 0) = false := by rw [hc0]; simp
          have HC : Hid (bw X Y k2 = 0) := hc0
          clear hc0
          go_wp2
          go_end0
          exact ⟨rfl, hwr, HZ.out k2 _ hkn hseg (Or.inr ⟨hk2, HC.out⟩)⟩
        · have hb0 : (((bw X Y k2 : Nat) : Int) != 0) = true := by rw [bne_iff_ne]; omega
          by_cases hlt2 : k2 < n
          · have hcx := hseg.rest
            have hfz := fun o => (hwr.row hrow).frozen o
            have h1 := dg_lt X k2
            go_wp2
            go_roundw
            case rel =>
              have e3 : dg Y k2 = 0 := dg_big (Nat.lt_of_lt_of_le hS2.1 (pow_mono hk2))
              have e0 := sub_step k2 HL.out
              rw [e3, Nat.add_zero] at e0
              have e := sub_val1 e0 h1 (dg_lt _ _) hcy (bw_le _ _ _)
              refine ⟨k2 + 1, by omega, by omega, by go_num, ?_, ?_, ?_⟩
              · rw [e.2]
              · exact hwr.setCell (off + k2) (by omega) (by omega) _
              · exact hseg.set hlt2 hS.1 e.1
            case measure => simp [intOf]; omega
          · go_wp2
            go_end0
            exact ⟨rfl, hwr, HZ.out k2 _ hkn hseg (Or.inl (by omega))⟩

set_option maxHeartbeats 1000000 in
theorem Add_any (ao ao2 : Option Addr) (n cap X m cap2 Y : Nat) (w : World) (hc : n ≤ cap) (hm : n ≤ 70368744177663) (hS : Seg w ao X n) (hc2 : m ≤ cap2) (hm2 : m ≤ 70368744177663) (hS2 : Seg w ao2 Y m) :
    Calls Tryz.prog 108 #[.slice ao n cap, .slice ao2 m cap2] w fun e w' => ∃ ao', e = .returned (.slice ao' (ln (X + Y)) (ln (X + Y))) ∧ New w w' ao' (X + Y) (ln (X + Y)) := by
  have hl := ln_le_of_lt hS.1
  have hl2 := ln_le_of_lt hS2.1
  by_cases hlt : ln X < ln Y
  · go_enter Tryz.func108, Tryz.ntmps108
    go_wp2_with fail
    refine (trim_any _ _ _ X _ hc (by omega) hS).mono ?_
    rintro e w' ⟨a1, rfl, rfl, ht⟩
    have hT := hS.trm ht
    go_wp2_with fail
    refine (trim_any _ _ _ Y _ hc2 (by omega) hS2).mono ?_
    rintro e w' ⟨a2, rfl, rfl, ht2⟩
    have hT2 := hS2.trm ht2
    go_wp2_with (first | (at_make; refine mk_law _ rfl _ _ rfl _ (ln Y + 1) rfl rfl (by go_num) (by omega) ?_; intro w1 hnew hrow) | (with_reducible refine at_copy ?_; refine copy_law rfl _ _ rfl w.heap.size 0 (ln Y + 1) _ _ (ln Y) _ rfl rfl Y 0 hrow hnew.seg (hT2.below hnew.below (Nat.le_refl _)) (by omega) ?_; intro w2 hwr hseg))
    have hlt1 : w.heap.size < w1.heap.size := hrow.lt
    rw [mix_nought (ln_lt Y)] at hseg
    have hne := ht.ne_new hS (Nat.le_refl w.heap.size)
    have hB2 : Below w.heap.size w w2 := hnew.below.trans (hwr.below (Nat.le_refl _) hnew.below.size)
    refine (addInto_any _ _ _ _ Y _ _ _ X _ (by omega) (by omega) (hwr.row hrow) hseg (hT.below hB2 (Nat.le_refl _)) hne).mono ?_
    rintro e w3 ⟨rfl, hwr3, hseg3⟩
    go_wp2_with fail
    have hsum : (Y + X) % BB ^ (ln Y + 1) = X + Y := by
      rw [Nat.mod_eq_of_lt, Nat.add_comm]
      have h1 := ln_lt Y
      have h2 := ln_lt X
      have h3 := pow_mono (show ln X ≤ ln Y by omega)
      have h4 := BBp (ln Y)
      rw [pow_succ', BB_eq]
      rw [BB_eq] at h1 h2 h3 h4
      omega
    rw [hsum] at hseg3
    have hN : New w w3 (some ⟨w.heap.size, 0, none⟩) (X + Y) (ln Y + 1) := ⟨hseg3, hB2.trans (hwr3.below (Nat.le_refl _) hB2.size), fun _ => ⟨_, _, rfl, Nat.le_refl _, hwr3.row (hwr.row hrow)⟩⟩
    refine (trim_any _ _ _ (X + Y) _ (by omega) (by omega) hseg3).mono ?_
    rintro e w4 ⟨a4, rfl, rfl, ht4⟩
    go_wp2
    go_ret
    exact ⟨_, rfl, hN.trm ht4⟩
  · go_enter Tryz.func108, Tryz.ntmps108
    go_wp2_with fail
    refine (trim_any _ _ _ X _ hc (by omega) hS).mono ?_
    rintro e w' ⟨a1, rfl, rfl, ht⟩
    have hT := hS.trm ht
    go_wp2_with fail
    refine (trim_any _ _ _ Y _ hc2 (by omega) hS2).mono ?_
    rintro e w' ⟨a2, rfl, rfl, ht2⟩
    have hT2 := hS2.trm ht2
    go_wp2_with (first | (at_make; refine mk_law _ rfl _ _ rfl _ (ln X + 1) rfl rfl (by go_num) (by omega) ?_; intro w1 hnew hrow) | (with_reducible refine at_copy ?_; refine copy_law rfl _ _ rfl w.heap.size 0 (ln X + 1) _ _ (ln X) _ rfl rfl X 0 hrow hnew.seg (hT.below hnew.below (Nat.le_refl _)) (by omega) ?_; intro w2 hwr hseg))
    have hlt1 : w.heap.size < w1.heap.size := hrow.lt
    rw [mix_nought (ln_lt X)] at hseg
    have hne := ht2.ne_new hS2 (Nat.le_refl w.heap.size)
    have hB2 : Below w.heap.size w w2 := hnew.below.trans (hwr.below (Nat.le_refl _) hnew.below.size)
    refine (addInto_any _ _ _ _ X _ _ _ Y _ (by omega) (by omega) (hwr.row hrow) hseg (hT2.below hB2 (Nat.le_refl _)) hne).mono ?_
    rintro e w3 ⟨rfl, hwr3, hseg3⟩
    go_wp2_with fail
    have hsum : (X + Y) % BB ^ (ln X + 1) = X + Y := by
      rw [Nat.mod_eq_of_lt]
      have h1 := ln_lt X
      have h2 := ln_lt Y
      have h3 := pow_mono (show ln Y ≤ ln X by omega)
      have h4 := BBp (ln X)
      rw [pow_succ', BB_eq]
      rw [BB_eq] at h1 h2 h3 h4
      omega
    rw [hsum] at hseg3
    have hN : New w w3 (some ⟨w.heap.size, 0, none⟩) (X + Y) (ln X + 1) := ⟨hseg3, hB2.trans (hwr3.below (Nat.le_refl _) hB2.size), fun _ => ⟨_, _, rfl, Nat.le_refl _, hwr3.row (hwr.row hrow)⟩⟩
    refine (trim_any _ _ _ (X + Y) _ (by omega) (by omega) hseg3).mono ?_
    rintro e w4 ⟨a4, rfl, rfl, ht4⟩
    go_wp2
    go_ret
    exact ⟨_, rfl, hN.trm ht4⟩

theorem subFrom_nil (ao ao2 : Option Addr) (c c2 : Nat) (w : World) :
    Calls Tryz.prog 120 #[.slice ao 0 c, .slice ao2 0 c2] w fun e w' => e = .returned (.tuple #[]) ∧ w = w' := by
  go_enter Tryz.func120, Tryz.ntmps120
  go_wp2
  go_loop [4, 11] (fun c i => c = .int .u64 0 ∧ i = .int .i64 0) (fun _ _ => 0)
  case atStart => exact ⟨rfl, rfl⟩
  case round =>
    obtain ⟨rfl, rfl⟩ := hrel
    go_wp2
    go_loop [4, 7] (fun c i => c = .int .u64 0 ∧ i = .int .i64 0) (fun _ _ => 0)
    case atStart => exact ⟨rfl, rfl⟩
    case round =>
      obtain ⟨rfl, rfl⟩ := hrel
      go_wp2
      go_end0
      exact ⟨rfl, rfl⟩
set_option maxHeartbeats 1000000 in
theorem Sub_any (ao ao2 : Option Addr) (n cap X m cap2 Y : Nat) (w : World) (hc : n ≤ cap) (hm : n ≤ 70368744177664) (hS : Seg w ao X n) (hc2 : m ≤ cap2) (hm2 : m ≤ 70368744177664) (hS2 : Seg w ao2 Y m) (hle : Y ≤ X) :
    Calls Tryz.prog 109 #[.slice ao n cap, .slice ao2 m cap2] w fun e w' => ∃ ao', e = .returned (.tuple #[.slice ao' (ln (X - Y)) (ln (X - Y)), .int .i64 0]) ∧ New w w' ao' (X - Y) (ln (X - Y)) := by
  have hl := ln_le_of_lt hS.1
  have hl2 := ln_le_of_lt hS2.1
  have hlm := ln_mono hle
  have HL : Hid (Y ≤ X) := hle
  have hb : ¬ cmpI X Y < 0 := by unfold cmpI; split; omega; split <;> simp
  clear hle
  go_enter Tryz.func109, Tryz.ntmps109
  go_wp2_with fail
  refine (Cmp_any _ _ _ _ X _ _ Y _ hc hm hS hc2 hm2 hS2).mono ?_
  rintro e w' ⟨rfl, hdr⟩
  go_wp2_with fail
  refine (Norm_any _ _ _ X _ hc hm (hS.dr hdr)).mono ?_
  rintro e w1 ⟨a1, rfl, hn1⟩
  go_wp2_with fail
  refine (trim_any _ _ _ Y _ hc2 hm2 ((hS2.dr hdr).below hn1.below (Nat.le_refl _))).mono ?_
  rintro e w2 ⟨a2, rfl, rfl, ht2⟩
  have hT2 := ((hS2.dr hdr).below hn1.below (Nat.le_refl _)).trm ht2
  go_wp2_with fail
  by_cases h0 : ln X = 0
  · have hX := ln_eq_zero.1 h0
    have hY : Y = 0 := by have := HL.out; omega
    subst hX hY
    rw [ln_zero]
    refine (subFrom_nil _ _ _ _ _).mono ?_
    rintro e w2 ⟨rfl, rfl⟩
    go_wp2_with fail
    refine (trim_any _ _ _ 0 _ (Nat.le_refl _) (by omega) (Seg.nil _ _)).mono ?_
    rintro e w2 ⟨a3, rfl, rfl, ht3⟩
    rw [ln_zero]
    go_wp2
    go_ret2
    exact ⟨a3, by rw [Nat.sub_self, ln_zero]; rfl, by rw [Nat.sub_self, ln_zero]; exact New.nil _ ((hdr.below _).trans (hn1.below.mono (by obtain ⟨q, rfl⟩ := hdr; exact Nat.le_refl _)))⟩
  · obtain ⟨b, off, rfl, hfr, hrow⟩ := hn1.fresh (by omega)
    have hsz : w'.heap.size = w.heap.size := by obtain ⟨q, rfl⟩ := hdr; rfl
    have hne : ∀ o, a2 ≠ some ⟨b, o, none⟩ := by
      by_cases hy0 : ln Y = 0
      · intro o e; rw [ht2.1 hy0] at e; simp at e
      · exact ((hS2.dr hdr).trm ht2).ne_new (by omega) hfr
    refine (subFrom_any _ _ _ _ X _ _ _ Y _ (by omega) hlm hrow hn1.seg hT2 hne HL.out).mono ?_
    rintro e w3 ⟨rfl, hwr3, hseg3⟩
    have hN : New w w3 (some ⟨b, off, none⟩) (X - Y) (ln X) := ⟨hseg3, (hdr.below _).trans ((hn1.below.mono (by omega)).trans (hwr3.below (by omega) (by have := hn1.below.size; omega))), fun _ => ⟨_, _, rfl, by omega, hwr3.row hrow⟩⟩
    go_wp2_with fail
    refine (trim_any _ _ _ (X - Y) _ (Nat.le_refl _) (by omega) hseg3).mono ?_
    rintro e w4 ⟨a4, rfl, rfl, ht4⟩
    go_wp2
    go_ret2
    exact ⟨_, rfl, hN.trm ht4⟩
theorem Sub_is (ao ao2 : Option Addr) (n cap X m cap2 Y Z : Nat) (w : World) (hc : n ≤ cap) (hm : n ≤ 70368744177664) (hS : Seg w ao X n) (hc2 : m ≤ cap2) (hm2 : m ≤ 70368744177664) (hS2 : Seg w ao2 Y m) (hz : Z + Y = X) :
    Calls Tryz.prog 109 #[.slice ao n cap, .slice ao2 m cap2] w fun e w' => ∃ ao', e = .returned (.tuple #[.slice ao' (ln Z) (ln Z), .int .i64 0]) ∧ New w w' ao' Z (ln Z) := by
  have h := Sub_any ao ao2 n cap X m cap2 Y w hc hm hS hc2 hm2 hS2 (by omega)
  rwa [show X - Y = Z by omega] at h
theorem Sub_below (ao ao2 : Option Addr) (n cap X m cap2 Y : Nat) (w : World) (hc : n ≤ cap) (hm : n ≤ 70368744177664) (hS : Seg w ao X n) (hc2 : m ≤ cap2) (hm2 : m ≤ 70368744177664) (hS2 : Seg w ao2 Y m) (hlt : X < Y) :
    Calls Tryz.prog 109 #[.slice ao n cap, .slice ao2 m cap2] w fun e w' => e = .returned (.tuple #[.slice none 0 0, .int .i64 10]) ∧ Dr w w' := by
  have hb : cmpI X Y < 0 := by rw [cmpI_lt hlt]; omega
  clear hlt
  go_enter Tryz.func109, Tryz.ntmps109
  go_wp2_with fail
  refine (Cmp_any _ _ _ _ X _ _ Y _ hc hm hS hc2 hm2 hS2).mono ?_
  rintro e w' ⟨rfl, hdr⟩
  go_wp2
  go_ret2
  exact ⟨rfl, hdr⟩
end Go.Proofs.YtejlnodillnoaaaGreatDoor
