/-
  analyse: the reference's supported, Check, falses.
-/
import Derived.Test.YtbcbgglhhfdbcabAN2
import Derived.Deep.QuietTactic
namespace Go.Proofs.Ytbcbgglhhfdbcab
open Go.RowKit
set_option linter.unusedVariables false
set_option linter.unusedSimpArgs false
set_option maxHeartbeats 2000000 in
set_option maxRecDepth 100000 in
theorem rsup_is (a : Option Addr) (ca : Nat) (C : List (List Int)) (f : Nat → Option Addr × Nat) (ma : Option Addr) (mc : Nat) (M : List Mk) (i : Nat) (w : World) (hC : CsAt w a C f) (hM : MsAt w ma M) (hmc : M.length ≤ mc) (hi : i < M.length) (hl : 0 ≤ ahd M i ∧ ahd M i ≤ 17592186044416) (z : Bool) (hz : z = true ↔ Sup C M i) :
    Calls Try.prog 67 #[.slice a C.length ca, .slice ma M.length mc, .int .i64 (i : Int)] w fun e w' => e = .returned (.bool z) ∧ Below w.heap.size w w' := by
  obtain ⟨bq, off, rfl, ⟨k0, k1, k2⟩, ho⟩ := hM.el rfl hi
  have hmx := hM.1
  have hcx := hC.1
  have GP := hide' (fun w' (hb : Below w.heap.size w w') => rplace_is (some ⟨bq, off, none⟩) mc (M.take i) · w' ((hM.take i).later hb))
  have hti : (M.take i).length = i := by rw [List.length_take]; omega
  rw [hti] at GP
  unfold Sup at hz
  have hah : ahd M i = ahd M i := rfl
  obtain ⟨A9, hA9⟩ : ∃ A9, ahd M i = A9 := ⟨_, rfl⟩
  rw [hA9] at hz hl
  unfold okM i64 at ho
  have hka : ∀ j, i = j + 1 → w.cell? ⟨bq, off + j * 3 + 1, none⟩ = some (.int .i64 A9) := fun j hj => by
    obtain ⟨b2, o2, e2, ⟨_, c2, _⟩, _⟩ := hM.el rfl (show j < M.length by omega)
    injection e2 with e2; injection e2 with e3 e4; subst e3; subst e4
    rw [← hA9]; unfold ahd; rw [if_neg (by omega), hj, Nat.add_sub_cancel]; exact c2
  have HA0 : i = 0 → A9 = 0 := fun h => by rw [← hA9]; unfold ahd; rw [if_pos h]
  obtain ⟨l0, hl0⟩ : ∃ x, (M.getD i default).l = x := ⟨_, rfl⟩
  obtain ⟨v0, hv0⟩ : ∃ x, (M.getD i default).v = x := ⟨_, rfl⟩
  obtain ⟨r0, hr0⟩ : ∃ x, (M.getD i default).r = x := ⟨_, rfl⟩
  rw [hl0, hv0, hr0] at hz ho
  rw [hl0] at k0
  rw [hv0] at k1
  rw [hr0] at k2
  obtain ⟨n, hn⟩ : ∃ n, M.length = n := ⟨_, rfl⟩
  obtain ⟨N, hN⟩ : ∃ N, C.length = N := ⟨_, rfl⟩
  rw [hn] at hi hmx hmc ⊢
  rw [hN] at hcx hz ⊢
  have HC := hide' (And.intro hC hN)
  have HZ := hide' hz
  have HO := hide' ho
  clear hC hN hz hM hn hti hA9 hah hl0 hv0 hr0
  have hr1 := HO.out.2.2.1
  have hr2 := HO.out.2.2.2
  have i1 : (i : Int) < (n : Int) := by omega
  have i0 : (0 : Int) ≤ (i : Int) := by omega
  have i3 : (i : Int) ≤ (mc : Int) := by omega
  by_cases h0 : i = 0
  · have hA := HA0 h0
    subst hA
    have hgt : ¬ ((i : Int) > 0) := by omega
    have g9 : decide (0 < i) = false := decide_eq_false (by omega)
    clear hka HA0 hl
    replace h0 := hide' h0
    obtain ⟨wA, hwA⟩ : ∃ wA, w.alloc (.cells #[.int .i64 l0, .int .i64 v0, .int .i64 r0] 46) = wA := ⟨_, rfl⟩
    have bA := below_alloc (w := w) (.cells #[.int .i64 l0, .int .i64 v0, .int .i64 r0] 46)
    have hqn := row_new w #[.int .i64 l0, .int .i64 v0, .int .i64 r0] 46
    have nA := heap_alloc_new w (.cells #[.int .i64 l0, .int .i64 v0, .int .i64 r0] 46)
    rw [hwA] at bA nA hqn
    have s0 := cell_of_row wA w.heap.size 0 _ _ _ nA
    have s1 := cell_of_row wA w.heap.size 1 _ _ _ nA
    have s2 := cell_of_row wA w.heap.size 2 _ _ _ nA
    simp only [List.getElem?_toArray, List.getElem?_cons_zero, List.getElem?_cons_succ] at s0 s1 s2
    clear nA hqn
    by_cases hr : r0 = -1
    · subst hr
      have HF := hide' (show z = (v0 == 0 + 1) from by have h9 := HZ.out; rw [Bool.eq_iff_iff, h9]; simp)
      clear HZ
      go_enter Try.func67, Try.ntmps67
      go_wp2_with fail
      try rw [hwA]
      go_wp2
      go_ret
      exact ⟨by rw [HF.out]; try rfl, bA⟩
    · have er : (r0 == -1) = false := by simp [hr]
      replace hr := hide' hr
      by_cases hr3 : r0 < 0
      · skip
        have HF := hide' (show z = false from by have h9 := HZ.out; rw [Bool.eq_false_iff]; intro e9; have h8 := h9.1 e9; rcases h8 with h8 | h8; exact hr.out h8.1; omega)
        clear HZ
        go_enter Try.func67, Try.ntmps67
        go_wp2_with fail
        try rw [hwA]
        go_wp2_with fail
        go_quiet (fail)
        go_wp2
        go_ret
        exact ⟨by rw [HF.out]; try rfl, below_drewN bA⟩
      by_cases hr4 : r0 ≥ (N : Int)
      · have d0 : decide (r0 < 0) = false := decide_eq_false hr3
        have HF := hide' (show z = false from by have h9 := HZ.out; rw [Bool.eq_false_iff]; intro e9; have h8 := h9.1 e9; rcases h8 with h8 | h8; exact hr.out h8.1; omega)
        clear HZ
        go_enter Try.func67, Try.ntmps67
        go_wp2_with fail
        try rw [hwA]
        go_wp2_with fail
        go_quiet (fail)
        go_wp2
        go_ret
        exact ⟨by rw [HF.out]; try rfl, below_drewN bA⟩
      by_cases hv : v0 = 0
      rotate_left
      · have d0 : decide (r0 < 0) = false := decide_eq_false hr3
        have d1 : decide (r0 ≥ (N : Int)) = false := decide_eq_false hr4
        have d2 : (v0 != 0) = true := by simp [hv]
        replace hv := hide' hv
        have HF := hide' (show z = false from by have h9 := HZ.out; rw [Bool.eq_false_iff]; intro e9; have h8 := h9.1 e9; rcases h8 with h8 | h8; exact hr.out h8.1; exact hv.out h8.2.2.2.1)
        clear HZ
        go_enter Try.func67, Try.ntmps67
        go_wp2_with fail
        try rw [hwA]
        go_wp2_with fail
        go_quiet (fail)
        go_wp2
        go_ret
        exact ⟨by rw [HF.out]; try rfl, below_drewN bA⟩
      · skip
        have d0 : decide (r0 < 0) = false := decide_eq_false hr3
        have d1 : decide (r0 ≥ (N : Int)) = false := decide_eq_false hr4
        have d2 : (v0 != 0) = false := by simp [hv]
        obtain ⟨p, hp⟩ : ∃ p : Nat, r0 = (p : Int) := ⟨r0.toNat, by omega⟩
        have hpt : r0.toNat = p := by omega
        have hpN : p < N := by omega
        have HZ2 := hide' (show z = true ↔ forc (M.take i) (C.getD p []) l0 from by have h9 := HZ.out; rw [h9, hpt]; constructor; (rintro (e | e); exact absurd e.1 hr.out; exact e.2.2.2.2); (intro e; exact Or.inr ⟨hr.out, by omega, by omega, hv, e⟩))
        clear HZ
        clear hr3 hr4 hpt hr1 hr2
        subst hp
        replace hv := hide' hv
        obtain ⟨bc, oc, rfl, cK, hL⟩ := HC.out.1.el HC.out.2 hpN
        replace cK := below_cell bA cK
        have hL1 := hL.later bA
        have j2 : (0 : Int) ≤ (p : Int) := by omega
        have d3 : decide (N ≤ p) = false := decide_eq_false (by omega)
        have j3 : (p : Int) < (N : Int) := by omega
        obtain ⟨c, hc⟩ : ∃ c, C.getD p [] = c := ⟨_, rfl⟩
        rw [hc] at HZ2 cK hL hL1
        obtain ⟨⟨ca2, cc2⟩, hf2⟩ : ∃ x, f p = x := ⟨_, rfl⟩
        rw [hf2] at cK hL hL1
        clear hf2
        simp only at cK hL hL1
        have GH := hide' (fun nq => rhas_is ca2 cc2 c l0 (wA.drewN nq) (hL1.later (below_drewN (Below.refl _ _))))
        obtain ⟨L, hcl⟩ : ∃ L, c.length = L := ⟨_, rfl⟩
        have hLm := hL.1
        rw [hcl] at cK GH hLm
        have HL := hide' (And.intro hL1 hcl)
        clear hL hL1 hcl
        cases eh : hasL c l0
        · rw [eh] at GH
          have HF := hide' (show z = false from by rw [Bool.eq_false_iff]; intro e9; have h8 := HZ2.out.1 e9; have h7 := hasL_iff.2 h8.1; rw [eh] at h7; cases h7)
          clear HZ2 eh
          go_enter Try.func67, Try.ntmps67
          go_wp2_with fail
          try rw [hwA]
          go_wp2_with fail
          go_quiet ((go_at_call 35; exact Calls.quiet_of_same (GH.out _)))
          go_wp2
          go_ret
          exact ⟨by rw [HF.out]; try rfl, below_drewN bA⟩
        · rw [eh] at GH
          have HZ3 := hide' (show z = true ↔ ∀ x ∈ c, x = l0 ∨ (isLit x = true ∧ 0 ≤ plV (M.take i) (-x)) from by rw [HZ2.out]; exact ⟨fun e => e.2, fun e => ⟨hasL_iff.1 eh, e⟩⟩)
          clear HZ2 eh
          go_enter Try.func67, Try.ntmps67
          go_wp2_with fail
          try rw [hwA]
          go_wp2_with fail
          go_quiet ((go_at_call 35; exact Calls.quiet_of_same (GH.out _)))
          have bWB : Below wA.heap.size wA (wA.drewN nq) := below_drewN (Below.refl _ _)
          obtain ⟨wB, hqB⟩ : ∃ wB, wA.drewN nq = wB := ⟨_, rfl⟩
          rw [hqB] at bWB ⊢
          clear hqB
          replace s0 := below_cell bWB s0
          replace cK := below_cell bWB cK
          replace s1 := below_cell bWB s1
          replace s2 := below_cell bWB s2
          replace bA := bA.trans (bWB.mono bA.size)
          have HBW := hide' (show Below w.heap.size w wB from bA)
          have HLB := hide' (show LsAt wB ca2 c from HL.out.1.later bWB)
          have GP2 := hide' (fun x wr (hb : Below wB.heap.size wB wr) => GP.out x wr (HBW.out.trans (hb.mono HBW.out.size)))
          have GL := hide' (fun x w => rlit_is x w)
          have hn := hide' HL.out.2
          go_wp2_with fail
          clear GP GH bA bWB HL
          clear  cK k0 k1 k2 d0 d1 d2 s1 s2 er i1 hgt
          go_loopw [10] (fun vi wr => ∃ k : Nat, k ≤ L ∧ vi = .int .i64 k ∧ (∀ x ∈ c.take k, x = l0 ∨ (isLit x = true ∧ 0 ≤ plV (M.take i) (-x))) ∧ Below wB.heap.size wB wr) (fun vi _ => L - (intOf vi).toNat)
          case atStart => exact ⟨0, Nat.zero_le _, rfl, by simp, Below.refl _ _⟩
          case round =>
            obtain ⟨k, hk, rfl, hb, hB⟩ := hrel
            have HB := hide' hb
            clear hb
            have s3 := below_cell hB s0
            by_cases hlt : k < L
            · skip
              obtain ⟨bb, off, rfl, ck, hlo, hhi⟩ := HLB.out.el hn.out hlt
              replace ck := below_cell hB ck
              obtain ⟨y, hy⟩ : ∃ y, c.getD k 0 = y := ⟨_, rfl⟩
              rw [hy] at ck hlo hhi
              have HY := hide' hy
              clear hy
              have i1 : (k : Int) < (L : Int) := by omega
              have i0 : (0 : Int) ≤ (k : Int) := by omega
              have HST := hide' (take_snoc c 0 hn.out hlt)
              replace hB := hide' hB
              by_cases hyx : y = l0
              · skip
                have HN := hide' (show ∀ x ∈ c.take (k + 1), x = l0 ∨ (isLit x = true ∧ 0 ≤ plV (M.take i) (-x)) from fun x hx => by rw [HST.out, HY.out, List.mem_append, List.mem_singleton] at hx; rcases hx with hx | hx; exact HB.out x hx; subst hx; exact Or.inl hyx)
                clear HB
                have e8 : (y != l0) = false := by simp [hyx]
                clear hyx
                go_wp2_with fail
                go_quiet (fail)
                go_wp2
                go_roundw
                case rel => exact ⟨k + 1, by omega, by go_num, HN.out, by first | exact below_drewN hB.out | exact hB.out⟩
                case measure => simp only [intOf]; omega
              · have e8 : (y != l0) = true := by simp [hyx]
                replace hyx := hide' hyx
                cases eL : isLit y
                · skip
                  have HF := hide' (show z = false from by rw [Bool.eq_false_iff]; intro e9; have h8 := HZ3.out.1 e9 (c.getD k 0) (getD_mem (by have := hn.out; omega)); rw [HY.out] at h8; rcases h8 with h8 | h8; exact hyx.out h8; rw [eL] at h8; cases h8.1)
                  clear HB
                  have GL1 := hide' (GL.out y)
                  rw [eL] at GL1
                  clear eL
                  go_wp2_with fail
                  go_quiet ((go_at_call 66; exact Calls.quiet_of_same (GL1.out _)))
                  go_wp2
                  go_ret
                  exact ⟨(by rw [HF.out]; try rfl), HBW.out.trans ((below_drewN hB.out).mono HBW.out.size)⟩
                · have hyl := isLit_iff.1 eL
                  have GL1 := hide' (GL.out y)
                  rw [eL] at GL1
                  replace eL := hide' eL
                  have hw9 := wrap_neg (show -9223372036854775808 < y by omega) hhi
                  have hw8 := wrap_neg0 (show -9223372036854775808 < y by omega) hhi
                  replace hyl := hide' hyl
                  have GP3 := hide' (GP2.out (-y))
                  obtain ⟨t, ht⟩ : ∃ t, plV (M.take i) (-y) = t := ⟨_, rfl⟩
                  rw [ht] at GP3
                  replace ht := hide' ht
                  by_cases htn : t < 0
                  · skip
                    have HF := hide' (show z = false from by rw [Bool.eq_false_iff]; intro e9; have h8 := HZ3.out.1 e9 (c.getD k 0) (getD_mem (by have := hn.out; omega)); rw [HY.out] at h8; rcases h8 with h8 | h8; exact hyx.out h8; have h7 := h8.2; rw [ht.out] at h7; omega)
                    clear HB
                    go_wp2_with fail
                    go_quiet (first | (go_at_call 66; exact Calls.quiet_of_same (GL1.out _)) | (go_at_call 34; exact Calls.quiet_of_same (GP3.out _ (below_drewN hB.out))))
                    go_wp2
                    go_ret
                    exact ⟨(by rw [HF.out]; try rfl), HBW.out.trans ((below_drewN hB.out).mono HBW.out.size)⟩
                  · have hd9 : decide (t < 0) = false := decide_eq_false htn
                    have HN := hide' (show ∀ x ∈ c.take (k + 1), x = l0 ∨ (isLit x = true ∧ 0 ≤ plV (M.take i) (-x)) from fun x hx => by rw [HST.out, HY.out, List.mem_append, List.mem_singleton] at hx; rcases hx with hx | hx; exact HB.out x hx; subst hx; exact Or.inr ⟨eL.out, by rw [ht.out]; omega⟩)
                    clear HB
                    go_wp2_with fail
                    go_quiet (first | (go_at_call 66; exact Calls.quiet_of_same (GL1.out _)) | (go_at_call 34; exact Calls.quiet_of_same (GP3.out _ (below_drewN hB.out))))
                    go_wp2
                    go_roundw
                    case rel => exact ⟨k + 1, by omega, by go_num, HN.out, by first | exact below_drewN hB.out | exact hB.out⟩
                    case measure => simp only [intOf]; omega
            · obtain rfl : k = L := by omega
              have i1 : ¬ (k : Int) < (k : Int) := by omega
              have HF := hide' (show z = true from HZ3.out.2 (by have := HB.out; rw [take_all c hn.out] at this; exact this))
              clear HB
              go_wp2
              go_ret
              exact ⟨by rw [HF.out]; try rfl, HBW.out.trans (hB.mono HBW.out.size)⟩
  · obtain ⟨j, hj⟩ : ∃ j, i = j + 1 := ⟨i - 1, by omega⟩
    have kA := hka j hj
    have hgt : (i : Int) > 0 := by omega
    have g9 : decide (0 < i) = true := decide_eq_true (by omega)
    have e1 : (i : Int) - 1 = (j : Int) := by omega
    have j0 : (0 : Int) ≤ (j : Int) := by omega
    have j1 : (j : Int) < (n : Int) := by omega
    replace hj := hide' hj
    clear hka HA0 h0
    obtain ⟨wA, hwA⟩ : ∃ wA, w.alloc (.cells #[.int .i64 l0, .int .i64 v0, .int .i64 r0] 46) = wA := ⟨_, rfl⟩
    have bA := below_alloc (w := w) (.cells #[.int .i64 l0, .int .i64 v0, .int .i64 r0] 46)
    have hqn := row_new w #[.int .i64 l0, .int .i64 v0, .int .i64 r0] 46
    have nA := heap_alloc_new w (.cells #[.int .i64 l0, .int .i64 v0, .int .i64 r0] 46)
    rw [hwA] at bA nA hqn
    have s0 := cell_of_row wA w.heap.size 0 _ _ _ nA
    have s1 := cell_of_row wA w.heap.size 1 _ _ _ nA
    have s2 := cell_of_row wA w.heap.size 2 _ _ _ nA
    simp only [List.getElem?_toArray, List.getElem?_cons_zero, List.getElem?_cons_succ] at s0 s1 s2
    replace kA := below_cell bA kA
    clear nA hqn
    by_cases hr : r0 = -1
    · subst hr
      have HF := hide' (show z = (v0 == A9 + 1) from by have h9 := HZ.out; rw [Bool.eq_iff_iff, h9]; simp)
      clear HZ
      have e5 : IntKind.i64.wrap (A9 + 1) = A9 + 1 := by rw [IntKind.wrap_i64]; omega
      go_enter Try.func67, Try.ntmps67
      go_wp2_with fail
      try rw [hwA]
      go_wp2
      go_ret
      exact ⟨by rw [HF.out]; try rfl, bA⟩
    · have er : (r0 == -1) = false := by simp [hr]
      replace hr := hide' hr
      by_cases hr3 : r0 < 0
      · skip
        have HF := hide' (show z = false from by have h9 := HZ.out; rw [Bool.eq_false_iff]; intro e9; have h8 := h9.1 e9; rcases h8 with h8 | h8; exact hr.out h8.1; omega)
        clear HZ
        go_enter Try.func67, Try.ntmps67
        go_wp2_with fail
        try rw [hwA]
        go_wp2_with fail
        go_quiet (fail)
        go_wp2
        go_ret
        exact ⟨by rw [HF.out]; try rfl, below_drewN bA⟩
      by_cases hr4 : r0 ≥ (N : Int)
      · have d0 : decide (r0 < 0) = false := decide_eq_false hr3
        have HF := hide' (show z = false from by have h9 := HZ.out; rw [Bool.eq_false_iff]; intro e9; have h8 := h9.1 e9; rcases h8 with h8 | h8; exact hr.out h8.1; omega)
        clear HZ
        go_enter Try.func67, Try.ntmps67
        go_wp2_with fail
        try rw [hwA]
        go_wp2_with fail
        go_quiet (fail)
        go_wp2
        go_ret
        exact ⟨by rw [HF.out]; try rfl, below_drewN bA⟩
      by_cases hv : v0 = A9
      rotate_left
      · have d0 : decide (r0 < 0) = false := decide_eq_false hr3
        have d1 : decide (r0 ≥ (N : Int)) = false := decide_eq_false hr4
        have d2 : (v0 != A9) = true := by simp [hv]
        replace hv := hide' hv
        have HF := hide' (show z = false from by have h9 := HZ.out; rw [Bool.eq_false_iff]; intro e9; have h8 := h9.1 e9; rcases h8 with h8 | h8; exact hr.out h8.1; exact hv.out h8.2.2.2.1)
        clear HZ
        go_enter Try.func67, Try.ntmps67
        go_wp2_with fail
        try rw [hwA]
        go_wp2_with fail
        go_quiet (fail)
        go_wp2
        go_ret
        exact ⟨by rw [HF.out]; try rfl, below_drewN bA⟩
      · skip
        have d0 : decide (r0 < 0) = false := decide_eq_false hr3
        have d1 : decide (r0 ≥ (N : Int)) = false := decide_eq_false hr4
        have d2 : (v0 != A9) = false := by simp [hv]
        obtain ⟨p, hp⟩ : ∃ p : Nat, r0 = (p : Int) := ⟨r0.toNat, by omega⟩
        have hpt : r0.toNat = p := by omega
        have hpN : p < N := by omega
        have HZ2 := hide' (show z = true ↔ forc (M.take i) (C.getD p []) l0 from by have h9 := HZ.out; rw [h9, hpt]; constructor; (rintro (e | e); exact absurd e.1 hr.out; exact e.2.2.2.2); (intro e; exact Or.inr ⟨hr.out, by omega, by omega, hv, e⟩))
        clear HZ
        clear hr3 hr4 hpt hr1 hr2
        subst hp
        replace hv := hide' hv
        obtain ⟨bc, oc, rfl, cK, hL⟩ := HC.out.1.el HC.out.2 hpN
        replace cK := below_cell bA cK
        have hL1 := hL.later bA
        have j2 : (0 : Int) ≤ (p : Int) := by omega
        have d3 : decide (N ≤ p) = false := decide_eq_false (by omega)
        have j3 : (p : Int) < (N : Int) := by omega
        obtain ⟨c, hc⟩ : ∃ c, C.getD p [] = c := ⟨_, rfl⟩
        rw [hc] at HZ2 cK hL hL1
        obtain ⟨⟨ca2, cc2⟩, hf2⟩ : ∃ x, f p = x := ⟨_, rfl⟩
        rw [hf2] at cK hL hL1
        clear hf2
        simp only at cK hL hL1
        have GH := hide' (fun nq => rhas_is ca2 cc2 c l0 (wA.drewN nq) (hL1.later (below_drewN (Below.refl _ _))))
        obtain ⟨L, hcl⟩ : ∃ L, c.length = L := ⟨_, rfl⟩
        have hLm := hL.1
        rw [hcl] at cK GH hLm
        have HL := hide' (And.intro hL1 hcl)
        clear hL hL1 hcl
        cases eh : hasL c l0
        · rw [eh] at GH
          have HF := hide' (show z = false from by rw [Bool.eq_false_iff]; intro e9; have h8 := HZ2.out.1 e9; have h7 := hasL_iff.2 h8.1; rw [eh] at h7; cases h7)
          clear HZ2 eh
          go_enter Try.func67, Try.ntmps67
          go_wp2_with fail
          try rw [hwA]
          go_wp2_with fail
          go_quiet ((go_at_call 35; exact Calls.quiet_of_same (GH.out _)))
          go_wp2
          go_ret
          exact ⟨by rw [HF.out]; try rfl, below_drewN bA⟩
        · rw [eh] at GH
          have HZ3 := hide' (show z = true ↔ ∀ x ∈ c, x = l0 ∨ (isLit x = true ∧ 0 ≤ plV (M.take i) (-x)) from by rw [HZ2.out]; exact ⟨fun e => e.2, fun e => ⟨hasL_iff.1 eh, e⟩⟩)
          clear HZ2 eh
          go_enter Try.func67, Try.ntmps67
          go_wp2_with fail
          try rw [hwA]
          go_wp2_with fail
          go_quiet ((go_at_call 35; exact Calls.quiet_of_same (GH.out _)))
          have bWB : Below wA.heap.size wA (wA.drewN nq) := below_drewN (Below.refl _ _)
          obtain ⟨wB, hqB⟩ : ∃ wB, wA.drewN nq = wB := ⟨_, rfl⟩
          rw [hqB] at bWB ⊢
          clear hqB
          replace s0 := below_cell bWB s0
          replace cK := below_cell bWB cK
          replace s1 := below_cell bWB s1
          replace s2 := below_cell bWB s2
          replace bA := bA.trans (bWB.mono bA.size)
          have HBW := hide' (show Below w.heap.size w wB from bA)
          have HLB := hide' (show LsAt wB ca2 c from HL.out.1.later bWB)
          have GP2 := hide' (fun x wr (hb : Below wB.heap.size wB wr) => GP.out x wr (HBW.out.trans (hb.mono HBW.out.size)))
          have GL := hide' (fun x w => rlit_is x w)
          have hn := hide' HL.out.2
          go_wp2_with fail
          clear GP GH bA bWB HL
          clear kA e1 j0 j1 cK k0 k1 k2 d0 d1 d2 s1 s2 er i1 hgt
          go_loopw [10] (fun vi wr => ∃ k : Nat, k ≤ L ∧ vi = .int .i64 k ∧ (∀ x ∈ c.take k, x = l0 ∨ (isLit x = true ∧ 0 ≤ plV (M.take i) (-x))) ∧ Below wB.heap.size wB wr) (fun vi _ => L - (intOf vi).toNat)
          case atStart => exact ⟨0, Nat.zero_le _, rfl, by simp, Below.refl _ _⟩
          case round =>
            obtain ⟨k, hk, rfl, hb, hB⟩ := hrel
            have HB := hide' hb
            clear hb
            have s3 := below_cell hB s0
            by_cases hlt : k < L
            · skip
              obtain ⟨bb, off, rfl, ck, hlo, hhi⟩ := HLB.out.el hn.out hlt
              replace ck := below_cell hB ck
              obtain ⟨y, hy⟩ : ∃ y, c.getD k 0 = y := ⟨_, rfl⟩
              rw [hy] at ck hlo hhi
              have HY := hide' hy
              clear hy
              have i1 : (k : Int) < (L : Int) := by omega
              have i0 : (0 : Int) ≤ (k : Int) := by omega
              have HST := hide' (take_snoc c 0 hn.out hlt)
              replace hB := hide' hB
              by_cases hyx : y = l0
              · skip
                have HN := hide' (show ∀ x ∈ c.take (k + 1), x = l0 ∨ (isLit x = true ∧ 0 ≤ plV (M.take i) (-x)) from fun x hx => by rw [HST.out, HY.out, List.mem_append, List.mem_singleton] at hx; rcases hx with hx | hx; exact HB.out x hx; subst hx; exact Or.inl hyx)
                clear HB
                have e8 : (y != l0) = false := by simp [hyx]
                clear hyx
                go_wp2_with fail
                go_quiet (fail)
                go_wp2
                go_roundw
                case rel => exact ⟨k + 1, by omega, by go_num, HN.out, by first | exact below_drewN hB.out | exact hB.out⟩
                case measure => simp only [intOf]; omega
              · have e8 : (y != l0) = true := by simp [hyx]
                replace hyx := hide' hyx
                cases eL : isLit y
                · skip
                  have HF := hide' (show z = false from by rw [Bool.eq_false_iff]; intro e9; have h8 := HZ3.out.1 e9 (c.getD k 0) (getD_mem (by have := hn.out; omega)); rw [HY.out] at h8; rcases h8 with h8 | h8; exact hyx.out h8; rw [eL] at h8; cases h8.1)
                  clear HB
                  have GL1 := hide' (GL.out y)
                  rw [eL] at GL1
                  clear eL
                  go_wp2_with fail
                  go_quiet ((go_at_call 66; exact Calls.quiet_of_same (GL1.out _)))
                  go_wp2
                  go_ret
                  exact ⟨(by rw [HF.out]; try rfl), HBW.out.trans ((below_drewN hB.out).mono HBW.out.size)⟩
                · have hyl := isLit_iff.1 eL
                  have GL1 := hide' (GL.out y)
                  rw [eL] at GL1
                  replace eL := hide' eL
                  have hw9 := wrap_neg (show -9223372036854775808 < y by omega) hhi
                  have hw8 := wrap_neg0 (show -9223372036854775808 < y by omega) hhi
                  replace hyl := hide' hyl
                  have GP3 := hide' (GP2.out (-y))
                  obtain ⟨t, ht⟩ : ∃ t, plV (M.take i) (-y) = t := ⟨_, rfl⟩
                  rw [ht] at GP3
                  replace ht := hide' ht
                  by_cases htn : t < 0
                  · skip
                    have HF := hide' (show z = false from by rw [Bool.eq_false_iff]; intro e9; have h8 := HZ3.out.1 e9 (c.getD k 0) (getD_mem (by have := hn.out; omega)); rw [HY.out] at h8; rcases h8 with h8 | h8; exact hyx.out h8; have h7 := h8.2; rw [ht.out] at h7; omega)
                    clear HB
                    go_wp2_with fail
                    go_quiet (first | (go_at_call 66; exact Calls.quiet_of_same (GL1.out _)) | (go_at_call 34; exact Calls.quiet_of_same (GP3.out _ (below_drewN hB.out))))
                    go_wp2
                    go_ret
                    exact ⟨(by rw [HF.out]; try rfl), HBW.out.trans ((below_drewN hB.out).mono HBW.out.size)⟩
                  · have hd9 : decide (t < 0) = false := decide_eq_false htn
                    have HN := hide' (show ∀ x ∈ c.take (k + 1), x = l0 ∨ (isLit x = true ∧ 0 ≤ plV (M.take i) (-x)) from fun x hx => by rw [HST.out, HY.out, List.mem_append, List.mem_singleton] at hx; rcases hx with hx | hx; exact HB.out x hx; subst hx; exact Or.inr ⟨eL.out, by rw [ht.out]; omega⟩)
                    clear HB
                    go_wp2_with fail
                    go_quiet (first | (go_at_call 66; exact Calls.quiet_of_same (GL1.out _)) | (go_at_call 34; exact Calls.quiet_of_same (GP3.out _ (below_drewN hB.out))))
                    go_wp2
                    go_roundw
                    case rel => exact ⟨k + 1, by omega, by go_num, HN.out, by first | exact below_drewN hB.out | exact hB.out⟩
                    case measure => simp only [intOf]; omega
            · obtain rfl : k = L := by omega
              have i1 : ¬ (k : Int) < (k : Int) := by omega
              have HF := hide' (show z = true from HZ3.out.2 (by have := HB.out; rw [take_all c hn.out] at this; exact this))
              clear HB
              go_wp2
              go_ret
              exact ⟨by rw [HF.out]; try rfl, HBW.out.trans (hB.mono HBW.out.size)⟩
set_option maxHeartbeats 2000000 in
set_option maxRecDepth 100000 in
theorem rChk_is (a : Option Addr) (ca : Nat) (C : List (List Int)) (f : Nat → Option Addr × Nat) (ma : Option Addr) (mc : Nat) (M : List Mk) (w : World) (hC : CsAt w a C f) (hM : MsAt w ma M) (hmc : M.length ≤ mc) :
    Calls Try.prog 33 #[.slice a C.length ca, .slice ma M.length mc] w fun e w' => e = .returned (.int .i64 (ckz C M)) ∧ Below w.heap.size w w' := by
  obtain ⟨n, hn⟩ : ∃ n, M.length = n := ⟨_, rfl⟩
  have hmx := hM.1
  have GL := hide' (fun x w => rlit_is x w)
  have GP := hide' (fun k x wr (hb : Below w.heap.size w wr) => rplace_is ma mc (M.take k) x wr ((hM.take k).later hb))
  have GS := hide' (fun k wr (hb : Below w.heap.size w wr) (hk : k < M.length) hl z hz => rsup_is a ca C f ma mc M k wr (hC.later hb) (hM.later hb) hmc hk hl z hz)
  have HA := hide' hM
  rw [hn] at hmx hmc GS ⊢
  replace hn := hide' hn
  clear hM hC
  obtain ⟨N, hN⟩ : ∃ N, C.length = N := ⟨_, rfl⟩
  rw [hN] at GS ⊢
  clear hN
  go_enter Try.func33, Try.ntmps33
  go_wp2_with fail
  go_loopw [5] (fun vi wr => ∃ k : Nat, k ≤ n ∧ vi = .int .i64 k ∧ ChkK C M k ∧ Below w.heap.size w wr) (fun vi _ => n - (intOf vi).toNat)
  case atStart => exact ⟨0, Nat.zero_le _, rfl, ChkK.zero _ _, Below.refl _ _⟩
  case round =>
    obtain ⟨k, hk, rfl, hb, hB⟩ := hrel
    have HB := hide' hb
    clear hb
    by_cases hlt : k < n
    · have i1 : (k : Int) < (n : Int) := by omega
      have i0 : (0 : Int) ≤ (k : Int) := by omega
      have i3 : (k : Int) ≤ (mc : Int) := by omega
      obtain ⟨bq, off, rfl, ⟨ck, _, _⟩, ho⟩ := HA.out.el hn.out hlt
      replace ck := below_cell hB ck
      unfold okM i64 at ho
      have hlv := HB.out.lvl (Nat.le_refl k)
      have HLV := hide' (show 0 ≤ ahd M k ∧ ahd M k ≤ 17592186044416 from by omega)
      clear hlv
      have htk : (M.take k).length = k := by rw [List.length_take, hn.out]; omega
      have GP1 := hide' (fun x wr hb => by have h9 := GP.out k x wr hb; rw [htk] at h9; exact h9)
      clear htk
      have hO := OkAt.mk (C := C) (M := M) (i := k)
      have hO2 : OkAt C M k → _ := fun h => And.intro h.lit (And.intro h.new (And.intro h.neg h.sup))
      obtain ⟨y, hy⟩ : ∃ y, (M.getD k default).l = y := ⟨_, rfl⟩
      rw [hy] at ck hO hO2 ho
      have ho1 := ho.1
      have HO := hide' (And.intro hO hO2)
      clear hy hO hO2 ho
      have GL1 := hide' (GL.out y wr)
      have GPA := GP1.out y wr hB
      have GPB := GP1.out (-y) wr hB
      obtain ⟨s, hs⟩ : ∃ s, plV (M.take k) y = s := ⟨_, rfl⟩
      obtain ⟨t, ht⟩ : ∃ t, plV (M.take k) (-y) = t := ⟨_, rfl⟩
      rw [hs] at GPA
      rw [ht] at GPB
      replace GPA := hide' GPA
      replace GPB := hide' GPB
      have HS := hide' hs
      have HT := hide' ht
      clear hs ht GP1
      have hlo := ho1.1
      have hhi := ho1.2
      clear ho1
      cases eL : isLit y
      · skip
        have HF := hide' (ckz_no (ChkK.not (C := C) (M := M) (k := k) (by rw [hn.out]; exact hlt) (fun h => by have h9 := HO.out.2 h; rw [eL] at h9; cases h9.1)))
        clear HB
        rw [eL] at GL1
        clear eL
        go_wp2_with fail
        refine (GL1.out).mono ?_
        rintro e w1 ⟨rfl, hw9⟩
        rw [hw9]
        clear hw9
        go_wp2
        go_ret
        exact ⟨(by rw [HF.out]; try rfl), hB⟩
      · have hyl := isLit_iff.1 eL
        rw [eL] at GL1
        replace eL := hide' eL
        have hw9 := wrap_neg (show -9223372036854775808 < y by omega) hhi
        have hw8 := wrap_neg0 (show -9223372036854775808 < y by omega) hhi
        replace hyl := hide' hyl
        by_cases hs0 : s < 0
        rotate_left
        · skip
          have HF := hide' (ckz_no (ChkK.not (C := C) (M := M) (k := k) (by rw [hn.out]; exact hlt) (fun h => by have h9 := HO.out.2 h; exact hs0 (by rw [← HS.out]; exact h9.2.1))))
          clear HB
          go_wp2_with fail
          refine (GL1.out).mono ?_
          rintro e w1 ⟨rfl, hw9⟩
          rw [hw9]
          clear hw9
          go_wp2_with fail
          refine (GPA.out).mono ?_
          rintro e w2 ⟨rfl, hw9⟩
          rw [hw9]
          clear hw9
          go_wp2
          go_ret
          exact ⟨(by rw [HF.out]; try rfl), hB⟩
        · have hs1 : decide (s ≥ 0) = false := decide_eq_false (by omega)
          have hs2 : decide (0 ≤ s) = false := decide_eq_false (by omega)
          by_cases ht0 : t < 0
          rotate_left
          · skip
            have HF := hide' (ckz_no (ChkK.not (C := C) (M := M) (k := k) (by rw [hn.out]; exact hlt) (fun h => by have h9 := HO.out.2 h; exact ht0 (by rw [← HT.out]; exact h9.2.2.1))))
            clear HB
            go_wp2_with fail
            refine (GL1.out).mono ?_
            rintro e w1 ⟨rfl, hw9⟩
            rw [hw9]
            clear hw9
            go_wp2_with fail
            refine (GPA.out).mono ?_
            rintro e w2 ⟨rfl, hw9⟩
            rw [hw9]
            clear hw9
            go_wp2_with fail
            refine (GPB.out).mono ?_
            rintro e w3 ⟨rfl, hw9⟩
            rw [hw9]
            clear hw9
            go_wp2
            go_ret
            exact ⟨(by rw [HF.out]; try rfl), hB⟩
          · have ht1 : decide (t ≥ 0) = false := decide_eq_false (by omega)
            have ht2 : decide (0 ≤ t) = false := decide_eq_false (by omega)
            by_cases hS : Sup C M k
            · have HN := hide' (HB.out.succ (HO.out.1 eL.out (by rw [HS.out]; exact hs0) (by rw [HT.out]; exact ht0) hS))
              have G4 := hide' (GS.out k wr hB hlt HLV.out true (by simp [hS]))
              clear HB hS
              go_wp2_with fail
              refine (GL1.out).mono ?_
              rintro e w1 ⟨rfl, hw9⟩
              rw [hw9]
              clear hw9
              go_wp2_with fail
              refine (GPA.out).mono ?_
              rintro e w2 ⟨rfl, hw9⟩
              rw [hw9]
              clear hw9
              go_wp2_with fail
              refine (GPB.out).mono ?_
              rintro e w3 ⟨rfl, hw9⟩
              rw [hw9]
              clear hw9
              go_wp2_with fail
              refine G4.out.mono ?_
              rintro e w4 ⟨rfl, b4⟩
              replace hB := hB.trans (b4.mono hB.size)
              clear b4
              go_wp2
              go_roundw
              case rel => exact ⟨k + 1, by omega, by go_num, HN.out, hB⟩
              case measure => simp only [intOf]; omega
            · skip
              have HF := hide' (ckz_no (ChkK.not (C := C) (M := M) (k := k) (by rw [hn.out]; exact hlt) (fun h => by have h9 := HO.out.2 h; exact hS h9.2.2.2)))
              clear HB
              have G4 := hide' (GS.out k wr hB hlt HLV.out false (by simp [hS]))
              clear hS
              go_wp2_with fail
              refine (GL1.out).mono ?_
              rintro e w1 ⟨rfl, hw9⟩
              rw [hw9]
              clear hw9
              go_wp2_with fail
              refine (GPA.out).mono ?_
              rintro e w2 ⟨rfl, hw9⟩
              rw [hw9]
              clear hw9
              go_wp2_with fail
              refine (GPB.out).mono ?_
              rintro e w3 ⟨rfl, hw9⟩
              rw [hw9]
              clear hw9
              go_wp2_with fail
              refine G4.out.mono ?_
              rintro e w4 ⟨rfl, b4⟩
              replace hB := hB.trans (b4.mono hB.size)
              clear b4
              go_wp2
              go_ret
              exact ⟨(by rw [HF.out]; try rfl), hB⟩
    · obtain rfl : k = n := by omega
      have i1 : ¬ (k : Int) < (k : Int) := by omega
      have HF := hide' (ckz_yes (C := C) (M := M) (by have := HB.out; unfold Chk; rw [hn.out]; exact this))
      clear HB
      go_wp2
      go_ret
      exact ⟨(by rw [HF.out]; try rfl), hB⟩
end Go.Proofs.Ytbcbgglhhfdbcab
