/-
  gcdStep, Gcd.
-/
import Derived.Test.YtejlnodillnoaaaGreatDoorW16
import Derived.Deep.LoopGhost
namespace Go.Proofs.YtejlnodillnoaaaGreatDoor
open Go.RowKit
set_option linter.unusedVariables false
theorem timesLess_is (ao ao2 : Option Addr) (n cap X m k cap2 Y q L P : Nat) (w : World) (hn : n ≤ 70368744177664) (hk : k ≤ 70368744177664) (hmm : m < 4294967296) (hqq : q < 4294967296) (hL : L = max n k) (hS : Seg w ao X n) (hS2 : Seg w ao2 Y k)
    (h : P + q * Y = m * X) (hlt : P < BB ^ L) :
    Calls Tryz.prog 140 #[.slice ao n cap, .int .u64 m, .slice ao2 k cap2, .int .u64 q] w fun r w' => ∃ a', r = .returned (.slice a' (ln P) (ln P)) ∧ New w w' a' P (ln P) := by
  have e : m * X - q * Y = P := by omega
  have := timesLess_any ao ao2 n cap X m k cap2 Y q L w hn hk hmm hqq hL hS hS2 (by omega) (by rw [e]; exact hlt)
  rwa [e] at this
theorem below_cellOf {w w' : World} (h : Below w.heap.size w w') {a : Addr} {v : Value} (hc : w.cell? a = some v) : w'.cell? a = some v := by
  rw [h.cell (World.block_lt_of_cell? w a hc)]
  exact hc
set_option maxHeartbeats 2000000 in
theorem gcdStep_any (ao ao2 : Option Addr) (n m X Y : Nat) (w : World) (hn : n = ln X) (hm : m = ln Y) (hb : n ≤ 70368744177663) (hS : Seg w ao X n) (hS2 : Seg w ao2 Y m) (h3 : 3 ≤ m) (hle : Y ≤ X) :
    Calls Tryz.prog 121 #[.slice ao n n, .slice ao2 m m] w fun r w' => ∃ a1 a2 P Q, r = .returned (.tuple #[.slice a1 (ln P) (ln P), .slice a2 (ln Q) (ln Q)]) ∧ Q < P ∧ P ≤ Y ∧ Nat.gcd P Q = Nat.gcd X Y ∧ (New w w' a1 P (ln P) ∨ (a1 = ao2 ∧ P = Y)) ∧ New w w' a2 Q (ln Q) := by
  have hmn : m ≤ n := by rw [hm]; exact ln_le_of_lt (Nat.lt_of_le_of_lt hle hS.1)
  obtain ⟨h, xh, yh, hxh, hyh, hxb, HW⟩ := highWords_any ao ao2 n n X m m Y w (by omega) (by omega) hS hS2 hn.symm (by omega) hle
  have hX := Nat.div_add_mod X (2 ^ h)
  have hY := Nat.div_add_mod Y (2 ^ h)
  have hxl := Nat.mod_lt X (Nat.two_pow_pos h)
  have hyl := Nat.mod_lt Y (Nat.two_pow_pos h)
  rw [← hxh, Nat.mul_comm] at hX
  rw [← hyh, Nat.mul_comm] at hY
  have hhle : yh ≤ xh := by rw [hxh, hyh]; exact Nat.div_le_div_right hle
  have hYn : Y < BB ^ n := Nat.lt_of_le_of_lt hle hS.1
  have HG : Hid (∀ w, _) := fun w => gcdSteps_any X Y (2 ^ h) xh yh (X % 2 ^ h) (Y % 2 ^ h) w hX.symm hY.symm hxl hyl hxb hhle
  have HW' := hid15 HW
  have HN := hid15 hn
  have HM := hid15 hm
  clear hX hY hxl hyl hhle HW hn hm hxh hyh
  go_enter Tryz.func121, Tryz.ntmps121
  go_wp2_with fail
  refine HW'.out.mono ?_
  rintro e w1 ⟨rfl, hd⟩
  go_wp2_with fail
  refine (HG.out _).mono ?_
  rintro e w2 ⟨um, vm, u0, v0, ev, rfl, hT, hB2⟩
  have HT := hid15 hT
  clear hT
  by_cases h0 : vm = 0
  · subst h0
    go_wp2_with fail
    have hB3 : Below w.heap.size w (w2.alloc (.cells #[.int .u64 um, .int .u64 0, .int .u64 u0, .int .u64 v0, .bool ev] 135)) := (((hd.below _).trans (hB2.mono (hd.below w.heap.size).size))).alloc (Nat.le_trans (hd.below w.heap.size).size hB2.size) _
    have hYp : Y ≠ 0 := by intro hy; rw [HM.out, hy, ln_zero] at h3; omega
    refine (euclidStep_any ao ao2 n n X m Y _ (Nat.le_refl _) hb (by omega) (hS.below hB3 (Nat.le_refl _)) (hS2.below hB3 (Nat.le_refl _)) hYp).mono ?_
    rintro e w4 ⟨ar, rfl, hN⟩
    go_wp2
    go_ret2
    refine ⟨ao2, ar, Y, X % Y, by rw [← HM.out]; rfl, Nat.mod_lt _ (by omega), Nat.le_refl _, ?_, Or.inr ⟨rfl, rfl⟩, hN.back hB3⟩
    rw [Nat.gcd_comm X Y, Nat.gcd_rec Y X, Nat.gcd_comm]
  · rcases HT.out with h9 | ⟨t1, t2, t3, t4, P, Q, hQP, hPY, hgcd, heq⟩
    · exact absurd h9 h0
    have HE := hid15 heq
    have hQP' := hid15 hQP
    have hPY' := hid15 hPY
    have hgcd' := hid15 hgcd
    have hPb : P < BB ^ n := Nat.lt_of_le_of_lt hPY hYn
    have hQb : Q < BB ^ n := Nat.lt_trans hQP hPb
    clear heq hQP hPY hgcd
    cases ev
    · have HE1 : Hid (P + um * X = vm * Y) := by
        rcases HE.out with ⟨h, _⟩ | ⟨_, h, _⟩
        · cases h
        · exact h
      have HE2 : Hid (Q + v0 * Y = u0 * X) := by
        rcases HE.out with ⟨h, _⟩ | ⟨_, _, h⟩
        · cases h
        · exact h
      go_wp2_with fail
      have hB3 : Below w.heap.size w (w2.alloc (.cells #[.int .u64 um, .int .u64 vm, .int .u64 u0, .int .u64 v0, .bool false] 135)) := (((hd.below _).trans (hB2.mono (hd.below w.heap.size).size))).alloc (Nat.le_trans (hd.below w.heap.size).size hB2.size) _
      have q0 : (w2.alloc (.cells #[.int .u64 um, .int .u64 vm, .int .u64 u0, .int .u64 v0, .bool false] 135)).cell? ⟨w2.heap.size, 0, none⟩ = some (.int .u64 um) := by go_simp
      have q1 : (w2.alloc (.cells #[.int .u64 um, .int .u64 vm, .int .u64 u0, .int .u64 v0, .bool false] 135)).cell? ⟨w2.heap.size, 1, none⟩ = some (.int .u64 vm) := by go_simp
      have q2 : (w2.alloc (.cells #[.int .u64 um, .int .u64 vm, .int .u64 u0, .int .u64 v0, .bool false] 135)).cell? ⟨w2.heap.size, 2, none⟩ = some (.int .u64 u0) := by go_simp
      have q3 : (w2.alloc (.cells #[.int .u64 um, .int .u64 vm, .int .u64 u0, .int .u64 v0, .bool false] 135)).cell? ⟨w2.heap.size, 3, none⟩ = some (.int .u64 v0) := by go_simp
      generalize w2.alloc (.cells #[.int .u64 um, .int .u64 vm, .int .u64 u0, .int .u64 v0, .bool false] 135) = W at hB3 q0 q1 q2 q3 ⊢
      go_region_held3 (fun w' => w'.cell? ⟨w2.heap.size, 0, none⟩ = some (.int .u64 um) ∧ w'.cell? ⟨w2.heap.size, 1, none⟩ = some (.int .u64 vm) ∧ w'.cell? ⟨w2.heap.size, 2, none⟩ = some (.int .u64 u0) ∧ w'.cell? ⟨w2.heap.size, 3, none⟩ = some (.int .u64 v0) ∧ Below W.heap.size W w')
        (first | exact ⟨q0, q1, q2, q3, (Below.refl _ _).drew⟩ | exact ⟨below_cellOf hn2.below g0, below_cellOf hn2.below g1, below_cellOf hn2.below g2, below_cellOf hn2.below g3, gB.trans (hn2.below.mono gB.size)⟩ | exact ⟨below_cellOf hn1.below g0, below_cellOf hn1.below g1, below_cellOf hn1.below g2, below_cellOf hn1.below g3, gB.trans (hn1.below.mono gB.size)⟩)
        (first
          | (go_at_call_of 140 (Value.int .u64 (vm : Int)); obtain ⟨g0, g1, g2, g3, gB⟩ := (by assumption : _ ∧ _ ∧ _ ∧ _ ∧ Below W.heap.size W _); refine (timesLess_is ao2 ao m m Y vm n n X um n P _ (by omega) (by omega) t2 t1 (by omega) (hS2.below (hB3.trans (gB.mono hB3.size)) (Nat.le_refl _)) (hS.below (hB3.trans (gB.mono hB3.size)) (Nat.le_refl _)) HE1.out hPb).mono ?_; rintro e w5 ⟨a1, rfl, hn1⟩)
          | (go_at_call_of 140 (Value.int .u64 (u0 : Int)); obtain ⟨g0, g1, g2, g3, gB⟩ := (by assumption : _ ∧ _ ∧ _ ∧ _ ∧ Below W.heap.size W _); refine (timesLess_is ao ao2 n n X u0 m m Y v0 n Q _ (by omega) (by omega) t3 t4 (by omega) (hS.below (hB3.trans (gB.mono hB3.size)) (Nat.le_refl _)) (hS2.below (hB3.trans (gB.mono hB3.size)) (Nat.le_refl _)) HE2.out hQb).mono ?_; rintro e w6 ⟨a2, rfl, hn2⟩))
      have hB5 := hB3.drew.trans (hn1.below.mono hB3.drew.size)
      go_wp2
      go_ret2
      exact ⟨a1, a2, P, Q, rfl, hQP'.out, hPY'.out, hgcd'.out, Or.inl ((hn1.later hn2.below).back hB3.drew), hn2.back hB5⟩
    · have HE1 : Hid (P + vm * Y = um * X) := by
        rcases HE.out with ⟨_, h, _⟩ | ⟨h, _⟩
        · exact h
        · cases h
      have HE2 : Hid (Q + u0 * X = v0 * Y) := by
        rcases HE.out with ⟨_, _, h⟩ | ⟨h, _⟩
        · exact h
        · cases h
      go_wp2_with fail
      have hB3 : Below w.heap.size w (w2.alloc (.cells #[.int .u64 um, .int .u64 vm, .int .u64 u0, .int .u64 v0, .bool true] 135)) := (((hd.below _).trans (hB2.mono (hd.below w.heap.size).size))).alloc (Nat.le_trans (hd.below w.heap.size).size hB2.size) _
      have q0 : (w2.alloc (.cells #[.int .u64 um, .int .u64 vm, .int .u64 u0, .int .u64 v0, .bool true] 135)).cell? ⟨w2.heap.size, 0, none⟩ = some (.int .u64 um) := by go_simp
      have q1 : (w2.alloc (.cells #[.int .u64 um, .int .u64 vm, .int .u64 u0, .int .u64 v0, .bool true] 135)).cell? ⟨w2.heap.size, 1, none⟩ = some (.int .u64 vm) := by go_simp
      have q2 : (w2.alloc (.cells #[.int .u64 um, .int .u64 vm, .int .u64 u0, .int .u64 v0, .bool true] 135)).cell? ⟨w2.heap.size, 2, none⟩ = some (.int .u64 u0) := by go_simp
      have q3 : (w2.alloc (.cells #[.int .u64 um, .int .u64 vm, .int .u64 u0, .int .u64 v0, .bool true] 135)).cell? ⟨w2.heap.size, 3, none⟩ = some (.int .u64 v0) := by go_simp
      generalize w2.alloc (.cells #[.int .u64 um, .int .u64 vm, .int .u64 u0, .int .u64 v0, .bool true] 135) = W at hB3 q0 q1 q2 q3 ⊢
      go_region_held3 (fun w' => w'.cell? ⟨w2.heap.size, 0, none⟩ = some (.int .u64 um) ∧ w'.cell? ⟨w2.heap.size, 1, none⟩ = some (.int .u64 vm) ∧ w'.cell? ⟨w2.heap.size, 2, none⟩ = some (.int .u64 u0) ∧ w'.cell? ⟨w2.heap.size, 3, none⟩ = some (.int .u64 v0) ∧ Below W.heap.size W w')
        (first | exact ⟨q0, q1, q2, q3, (Below.refl _ _).drew⟩ | exact ⟨below_cellOf hn2.below g0, below_cellOf hn2.below g1, below_cellOf hn2.below g2, below_cellOf hn2.below g3, gB.trans (hn2.below.mono gB.size)⟩ | exact ⟨below_cellOf hn1.below g0, below_cellOf hn1.below g1, below_cellOf hn1.below g2, below_cellOf hn1.below g3, gB.trans (hn1.below.mono gB.size)⟩)
        (first
          | (go_at_call_of 140 (Value.int .u64 (um : Int)); obtain ⟨g0, g1, g2, g3, gB⟩ := (by assumption : _ ∧ _ ∧ _ ∧ _ ∧ Below W.heap.size W _); refine (timesLess_is ao ao2 n n X um m m Y vm n P _ (by omega) (by omega) t1 t2 (by omega) (hS.below (hB3.trans (gB.mono hB3.size)) (Nat.le_refl _)) (hS2.below (hB3.trans (gB.mono hB3.size)) (Nat.le_refl _)) HE1.out hPb).mono ?_; rintro e w5 ⟨a1, rfl, hn1⟩)
          | (go_at_call_of 140 (Value.int .u64 (v0 : Int)); obtain ⟨g0, g1, g2, g3, gB⟩ := (by assumption : _ ∧ _ ∧ _ ∧ _ ∧ Below W.heap.size W _); refine (timesLess_is ao2 ao m m Y v0 n n X u0 n Q _ (by omega) (by omega) t4 t3 (by omega) (hS2.below (hB3.trans (gB.mono hB3.size)) (Nat.le_refl _)) (hS.below (hB3.trans (gB.mono hB3.size)) (Nat.le_refl _)) HE2.out hQb).mono ?_; rintro e w6 ⟨a2, rfl, hn2⟩))
      have hB5 := hB3.drew.trans (hn1.below.mono hB3.drew.size)
      go_wp2
      go_ret2
      exact ⟨a1, a2, P, Q, rfl, hQP'.out, hPY'.out, hgcd'.out, Or.inl ((hn1.later hn2.below).back hB3.drew), hn2.back hB5⟩
theorem small2 {Z : Nat} (h : ln Z ≤ 2) : Z < 18446744073709551616 := by
  have h1 := ln_lt Z
  have h2 : BB ^ ln Z ≤ BB ^ 2 := pow_mono h
  have h3 : BB ^ 2 = 18446744073709551616 := by rw [BB_eq]
  omega
set_option maxHeartbeats 2000000 in
theorem Gcd_any (ao ao2 : Option Addr) (n cap X m cap2 Y : Nat) (w : World) (hc : n ≤ cap) (hm : n ≤ 70368744177663) (hS : Seg w ao X n) (hc2 : m ≤ cap2) (hm2 : m ≤ 70368744177663) (hS2 : Seg w ao2 Y m) :
    Calls Tryz.prog 110 #[.slice ao n cap, .slice ao2 m cap2] w fun e w' => ∃ ag, e = .returned (.slice ag (ln (Nat.gcd X Y)) (ln (Nat.gcd X Y))) ∧ New w w' ag (Nat.gcd X Y) (ln (Nat.gcd X Y)) := by
  have hl := ln_le_of_lt hS.1
  have hl2 := ln_le_of_lt hS2.1
  by_cases hlt : X < Y
  · have HL : Hid (X < Y) := hlt
    have hcm : cmpI X Y < 0 := by rw [cmpI_lt hlt]; omega
    clear hlt
    go_enter Tryz.func110, Tryz.ntmps110
    go_wp2_with fail
    refine (Norm_any _ _ _ X _ hc (by omega) hS).mono ?_
    rintro e w1 ⟨a1, rfl, hn1⟩
    go_wp2_with fail
    refine (Norm_any _ _ _ Y _ hc2 (by omega) (hS2.below hn1.below (Nat.le_refl _))).mono ?_
    rintro e w2 ⟨a2, rfl, hn2⟩
    go_wp2_with fail
    refine (Cmp_any _ _ _ _ X _ _ Y _ (Nat.le_refl _) (by omega) (hn1.later hn2.below).seg (Nat.le_refl _) (by omega) hn2.seg).mono ?_
    rintro e w3 ⟨rfl, hdr⟩
    go_wp2_with fail
    have hs1 := (hn1.later hn2.below).later (hdr.below _)
    have hs2 := (hn2.back hn1.below).later (hdr.below _)
    go_loopg [5, 6] X (fun k vx vy wr => ∃ ax ay A B, vx = .slice ax (ln A) (ln A) ∧ vy = .slice ay (ln B) (ln B) ∧ B = k ∧ B ≤ A ∧ ln A ≤ 70368744177663 ∧ Nat.gcd A B = Nat.gcd X Y ∧ New w wr ax A (ln A) ∧ New w wr ay B (ln B))
    case atStart => exact ⟨a2, a1, Y, X, rfl, rfl, rfl, (Nat.le_of_lt HL.out), by omega, (Nat.gcd_comm _ _), hs2, hs1⟩
    case round =>
      clear hn1 hn2 hs1 hs2 hdr
      obtain ⟨ax, ay, A, B, rfl, rfl, hk, hBA, hA9, hg, hNx, hNy⟩ := hrel
      have hlm : ln B ≤ ln A := ln_mono hBA
      have HBA := hid15 hBA
      have HGC := hid15 hg
      have HK := hid15 hk
      clear hBA hg hk
      by_cases hb3 : 2 < ln B
      · go_wp2_with fail
        refine (gcdStep_any ax ay _ _ A B _ rfl rfl hA9 hNx.seg hNy.seg hb3 HBA.out).mono ?_
        rintro e w5 ⟨b1, b2, P, Q, rfl, hQP, hPB, hgc, hn5, hn6⟩
        have HQ := hid15 hQP
        have HP := hid15 hPB
        have HG5 := hid15 hgc
        clear hQP hPB hgc
        go_wp2_with fail
        go_roundg Q
        case measure => have := HQ.out; have := HP.out; have := HK.out; omega
        case rel =>
          have hlP : ln P ≤ ln B := ln_mono HP.out
          refine ⟨b1, b2, P, Q, rfl, rfl, rfl, Nat.le_of_lt HQ.out, by omega, by rw [HG5.out, HGC.out], ?_, hn6.back hNy.below⟩
          rcases hn5 with h5 | ⟨rfl, rfl⟩
          · exact h5.back hNy.below
          · exact hNy.later hn6.below
      · by_cases hb0 : ln B = 0
        · have hB0 : B = 0 := ln_eq_zero.1 hb0
          have HB0 := hid15 hB0
          clear hB0
          go_wp2_with fail
          go_ret
          have e : Nat.gcd X Y = A := by rw [← HGC.out, HB0.out, Nat.gcd_zero_right]
          rw [e]
          exact ⟨ax, rfl, hNx⟩
        · by_cases ha : 2 < ln A
          · have hBp : B ≠ 0 := fun h => hb0 (ln_eq_zero.2 h)
            go_wp2_with fail
            refine (euclidStep_any ax ay _ _ A _ B _ (Nat.le_refl _) hA9 (by omega) hNx.seg hNy.seg hBp).mono ?_
            rintro e w5 ⟨ar, rfl, hn5⟩
            have hlr : ln (A % B) ≤ ln B := ln_mono (Nat.le_of_lt (Nat.mod_lt _ (by omega)))
            have hy5 := hNy.later hn5.below
            have hr5 := hn5.back hNy.below
            obtain ⟨R, hR⟩ : ∃ R, R = A % B := ⟨_, rfl⟩
            rw [← hR] at hlr hr5 ⊢
            have HR := hid15 hR
            clear hR hn5
            by_cases hr0 : ln R = 0
            · have HR0 := hid15 (ln_eq_zero.1 hr0)
              go_wp2_with fail
              go_ret
              have e : Nat.gcd X Y = B := by rw [← HGC.out, Nat.gcd_comm, Nat.gcd_rec, ← HR.out, HR0.out, Nat.gcd_zero_left]
              rw [e]
              exact ⟨ay, rfl, hy5⟩
            · go_wp2_with fail
              refine (word_any _ _ _ B _ (by omega) hy5.seg).mono ?_
              rintro e w6 ⟨rfl, rfl⟩
              go_wp2_with fail
              refine (word_any _ _ _ R _ (by omega) hr5.seg).mono ?_
              rintro e w6 ⟨rfl, rfl⟩
              go_wp2_with fail
              obtain ⟨G, hG⟩ : ∃ G, G = Nat.gcd B R := ⟨_, rfl⟩
              have hGl : G < 18446744073709551616 := by rw [hG]; exact Nat.lt_of_le_of_lt (Nat.gcd_le_right _ (Nat.pos_of_ne_zero fun h => hr0 (ln_eq_zero.2 h))) (small2 (by omega))
              have hgw := gcdOfWords_any B R w5 (small2 (by omega)) (small2 (by omega))
              rw [← hG] at hgw
              have HG := hid15 hG
              clear hG
              refine hgw.mono ?_
              clear hgw
              rintro e w7 ⟨rfl, hd7⟩
              go_wp2_with fail
              refine (Of_any G _ hGl).mono ?_
              rintro e w8 ⟨a8, rfl, hn8⟩
              go_wp2
              go_ret
              have e : Nat.gcd X Y = G := by rw [← HGC.out, HG.out, HR.out, Nat.gcd_comm A B, Nat.gcd_rec B A, Nat.gcd_comm B]
              rw [e]
              exact ⟨a8, rfl, hn8.back (hy5.below.trans (hd7.below _))⟩
          · go_wp2_with fail
            refine (word_any _ _ _ A _ (by omega) hNx.seg).mono ?_
            rintro e w6 ⟨rfl, rfl⟩
            go_wp2_with fail
            refine (word_any _ _ _ B _ (by omega) hNy.seg).mono ?_
            rintro e w6 ⟨rfl, rfl⟩
            go_wp2_with fail
            obtain ⟨G, hG⟩ : ∃ G, G = Nat.gcd A B := ⟨_, rfl⟩
            have hGl : G < 18446744073709551616 := by rw [hG]; exact Nat.lt_of_le_of_lt (Nat.gcd_le_right _ (Nat.pos_of_ne_zero fun h => hb0 (ln_eq_zero.2 h))) (small2 (by omega))
            have hgw := gcdOfWords_any A B wr (small2 (by omega)) (small2 (by omega))
            rw [← hG] at hgw
            have HG := hid15 hG
            clear hG
            refine hgw.mono ?_
            clear hgw
            rintro e w7 ⟨rfl, hd7⟩
            go_wp2_with fail
            refine (Of_any G _ hGl).mono ?_
            rintro e w8 ⟨a8, rfl, hn8⟩
            go_wp2
            go_ret
            have e : Nat.gcd X Y = G := by rw [← HGC.out, HG.out]
            rw [e]
            exact ⟨a8, rfl, hn8.back (hNx.below.trans (hd7.below _))⟩
  · have HL : Hid (Y ≤ X) := Nat.le_of_not_lt hlt
    have hcm : ¬ cmpI X Y < 0 := by unfold cmpI; rw [if_neg hlt]; split <;> simp
    clear hlt
    go_enter Tryz.func110, Tryz.ntmps110
    go_wp2_with fail
    refine (Norm_any _ _ _ X _ hc (by omega) hS).mono ?_
    rintro e w1 ⟨a1, rfl, hn1⟩
    go_wp2_with fail
    refine (Norm_any _ _ _ Y _ hc2 (by omega) (hS2.below hn1.below (Nat.le_refl _))).mono ?_
    rintro e w2 ⟨a2, rfl, hn2⟩
    go_wp2_with fail
    refine (Cmp_any _ _ _ _ X _ _ Y _ (Nat.le_refl _) (by omega) (hn1.later hn2.below).seg (Nat.le_refl _) (by omega) hn2.seg).mono ?_
    rintro e w3 ⟨rfl, hdr⟩
    go_wp2_with fail
    have hs1 := (hn1.later hn2.below).later (hdr.below _)
    have hs2 := (hn2.back hn1.below).later (hdr.below _)
    go_loopg [5, 6] Y (fun k vx vy wr => ∃ ax ay A B, vx = .slice ax (ln A) (ln A) ∧ vy = .slice ay (ln B) (ln B) ∧ B = k ∧ B ≤ A ∧ ln A ≤ 70368744177663 ∧ Nat.gcd A B = Nat.gcd X Y ∧ New w wr ax A (ln A) ∧ New w wr ay B (ln B))
    case atStart => exact ⟨a1, a2, X, Y, rfl, rfl, rfl, HL.out, by omega, rfl, hs1, hs2⟩
    case round =>
      clear hn1 hn2 hs1 hs2 hdr
      obtain ⟨ax, ay, A, B, rfl, rfl, hk, hBA, hA9, hg, hNx, hNy⟩ := hrel
      have hlm : ln B ≤ ln A := ln_mono hBA
      have HBA := hid15 hBA
      have HGC := hid15 hg
      have HK := hid15 hk
      clear hBA hg hk
      by_cases hb3 : 2 < ln B
      · go_wp2_with fail
        refine (gcdStep_any ax ay _ _ A B _ rfl rfl hA9 hNx.seg hNy.seg hb3 HBA.out).mono ?_
        rintro e w5 ⟨b1, b2, P, Q, rfl, hQP, hPB, hgc, hn5, hn6⟩
        have HQ := hid15 hQP
        have HP := hid15 hPB
        have HG5 := hid15 hgc
        clear hQP hPB hgc
        go_wp2_with fail
        go_roundg Q
        case measure => have := HQ.out; have := HP.out; have := HK.out; omega
        case rel =>
          have hlP : ln P ≤ ln B := ln_mono HP.out
          refine ⟨b1, b2, P, Q, rfl, rfl, rfl, Nat.le_of_lt HQ.out, by omega, by rw [HG5.out, HGC.out], ?_, hn6.back hNy.below⟩
          rcases hn5 with h5 | ⟨rfl, rfl⟩
          · exact h5.back hNy.below
          · exact hNy.later hn6.below
      · by_cases hb0 : ln B = 0
        · have hB0 : B = 0 := ln_eq_zero.1 hb0
          have HB0 := hid15 hB0
          clear hB0
          go_wp2_with fail
          go_ret
          have e : Nat.gcd X Y = A := by rw [← HGC.out, HB0.out, Nat.gcd_zero_right]
          rw [e]
          exact ⟨ax, rfl, hNx⟩
        · by_cases ha : 2 < ln A
          · have hBp : B ≠ 0 := fun h => hb0 (ln_eq_zero.2 h)
            go_wp2_with fail
            refine (euclidStep_any ax ay _ _ A _ B _ (Nat.le_refl _) hA9 (by omega) hNx.seg hNy.seg hBp).mono ?_
            rintro e w5 ⟨ar, rfl, hn5⟩
            have hlr : ln (A % B) ≤ ln B := ln_mono (Nat.le_of_lt (Nat.mod_lt _ (by omega)))
            have hy5 := hNy.later hn5.below
            have hr5 := hn5.back hNy.below
            obtain ⟨R, hR⟩ : ∃ R, R = A % B := ⟨_, rfl⟩
            rw [← hR] at hlr hr5 ⊢
            have HR := hid15 hR
            clear hR hn5
            by_cases hr0 : ln R = 0
            · have HR0 := hid15 (ln_eq_zero.1 hr0)
              go_wp2_with fail
              go_ret
              have e : Nat.gcd X Y = B := by rw [← HGC.out, Nat.gcd_comm, Nat.gcd_rec, ← HR.out, HR0.out, Nat.gcd_zero_left]
              rw [e]
              exact ⟨ay, rfl, hy5⟩
            · go_wp2_with fail
              refine (word_any _ _ _ B _ (by omega) hy5.seg).mono ?_
              rintro e w6 ⟨rfl, rfl⟩
              go_wp2_with fail
              refine (word_any _ _ _ R _ (by omega) hr5.seg).mono ?_
              rintro e w6 ⟨rfl, rfl⟩
              go_wp2_with fail
              obtain ⟨G, hG⟩ : ∃ G, G = Nat.gcd B R := ⟨_, rfl⟩
              have hGl : G < 18446744073709551616 := by rw [hG]; exact Nat.lt_of_le_of_lt (Nat.gcd_le_right _ (Nat.pos_of_ne_zero fun h => hr0 (ln_eq_zero.2 h))) (small2 (by omega))
              have hgw := gcdOfWords_any B R w5 (small2 (by omega)) (small2 (by omega))
              rw [← hG] at hgw
              have HG := hid15 hG
              clear hG
              refine hgw.mono ?_
              clear hgw
              rintro e w7 ⟨rfl, hd7⟩
              go_wp2_with fail
              refine (Of_any G _ hGl).mono ?_
              rintro e w8 ⟨a8, rfl, hn8⟩
              go_wp2
              go_ret
              have e : Nat.gcd X Y = G := by rw [← HGC.out, HG.out, HR.out, Nat.gcd_comm A B, Nat.gcd_rec B A, Nat.gcd_comm B]
              rw [e]
              exact ⟨a8, rfl, hn8.back (hy5.below.trans (hd7.below _))⟩
          · go_wp2_with fail
            refine (word_any _ _ _ A _ (by omega) hNx.seg).mono ?_
            rintro e w6 ⟨rfl, rfl⟩
            go_wp2_with fail
            refine (word_any _ _ _ B _ (by omega) hNy.seg).mono ?_
            rintro e w6 ⟨rfl, rfl⟩
            go_wp2_with fail
            obtain ⟨G, hG⟩ : ∃ G, G = Nat.gcd A B := ⟨_, rfl⟩
            have hGl : G < 18446744073709551616 := by rw [hG]; exact Nat.lt_of_le_of_lt (Nat.gcd_le_right _ (Nat.pos_of_ne_zero fun h => hb0 (ln_eq_zero.2 h))) (small2 (by omega))
            have hgw := gcdOfWords_any A B wr (small2 (by omega)) (small2 (by omega))
            rw [← hG] at hgw
            have HG := hid15 hG
            clear hG
            refine hgw.mono ?_
            clear hgw
            rintro e w7 ⟨rfl, hd7⟩
            go_wp2_with fail
            refine (Of_any G _ hGl).mono ?_
            rintro e w8 ⟨a8, rfl, hn8⟩
            go_wp2
            go_ret
            have e : Nat.gcd X Y = G := by rw [← HGC.out, HG.out]
            rw [e]
            exact ⟨a8, rfl, hn8.back (hNx.below.trans (hd7.below _))⟩
theorem Gcd_is (ao ao2 : Option Addr) (n cap X m cap2 Y G : Nat) (w : World) (hc : n ≤ cap) (hm : n ≤ 70368744177663) (hS : Seg w ao X n) (hc2 : m ≤ cap2) (hm2 : m ≤ 70368744177663) (hS2 : Seg w ao2 Y m) (h : Nat.gcd X Y = G) :
    Calls Tryz.prog 110 #[.slice ao n cap, .slice ao2 m cap2] w fun e w' => ∃ ag, e = .returned (.slice ag (ln G) (ln G)) ∧ New w w' ag G (ln G) := by
  have := Gcd_any ao ao2 n cap X m cap2 Y w hc hm hS hc2 hm2 hS2
  rwa [h] at this
end Go.Proofs.YtejlnodillnoaaaGreatDoor
