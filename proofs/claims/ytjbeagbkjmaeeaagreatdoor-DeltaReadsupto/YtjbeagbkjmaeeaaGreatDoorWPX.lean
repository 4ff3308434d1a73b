/-
  The reference's Parse of a text with a point: its second loop.
-/
import Derived.Test.YtjbeagbkjmaeeaaGreatDoorWPX0
namespace Go.Proofs.YtjbeagbkjmaeeaaGreatDoor
open Go.RowKit
set_option linter.unusedVariables false
set_option linter.unusedSimpArgs false

set_option maxHeartbeats 4000000 in
set_option maxRecDepth 100000 in
theorem vqParse_pointBad_pl (s t : ByteArray) (n X : Nat) (hs : s.size ≤ 140737488351232) (h0 : 0 < s.size) (hm : byt s 0 ≠ 45) (hst : s = t) (hl : Lead t n) (ha : isT 10 (t.extract 0 n)) (hX : val 10 (t.extract 0 n) = X) (hn2 : n + 1 < t.size) (h46 : byt t n = 46) (hT : ¬ tl10 (t.extract (n + 1) t.size)) (w : World) : Calls Tryz.prog 12 #[.string s] w fun e w' => e = .returned (.tuple #[.agg #[.bool false, .slice none 0 0, .slice none 0 0], .int .i64 31]) ∧ Below w.heap.size w w' := by
  have h0i : (0 : Int) < (s.size : Int) := by omega
  have eb := byt_of h0
  have hx : (((s[0]'h0).toNat : Int) == 45) = false := by
    rw [← eb, beq_eq_false_iff_ne]; omega
  have ht : t.size ≤ s.size := by subst hst; first | exact Nat.le_refl _ | (simp only [ByteArray.size_extract]; omega)
  have ez : (t.extract 0 n).size ≤ t.size := by simp only [ByteArray.size_extract]; omega
  have RPo := hide' (fun w' => rParse_ok (t.extract 0 n) X (by omega) ha hX w')
  have lX : ln X ≤ 35184372088000 := by rw [← hX]; have := val_ln ha.2.2; omega
  have ba := below_alloc (w := w) (.cells #[.bool false, .slice none 0 0, .slice none 0 0] 27)
  have qR := Blk.new w #[.bool false, .slice none 0 0, .slice none 0 0] 27
  have hn0 : n < t.size := by omega
  obtain ⟨u, hu⟩ : ∃ u, t.extract n t.size = u := ⟨_, rfl⟩
  have hus : u.size = t.size - n := by rw [← hu]; simp only [ByteArray.size_extract]; omega
  have hsl : ∀ wx : World, (Instr.slice 9 (.string t) (some (.int .i64 (n : Nat))) none none).run Tryz.prog wx = .ok (.string u) wx := fun wx => by
    have h := run_slice_string_l (P := Tryz.prog) (t := 9) (s := t) (w := wx) Tryz.underlying9 .i64 (n : Nat) (by omega) (by have := hl.le; omega)
    rw [Int.toNat_natCast, hu] at h
    exact h
  clear hn0
  have h0u : 0 < u.size := by omega
  have h0ui : (0 : Int) < (u.size : Int) := by omega
  have hz : ((u.size : Int) == 0) = false := by rw [beq_eq_false_iff_ne]; omega
  have eu : (u[0]'h0u).toNat = byt t n := by
    rw [← byt_of h0u, ← hu, byt_extract (Nat.le_refl _) (by omega), Nat.add_zero]
  have x47 : (((u[0]'h0u).toNat : Int) == 47) = false := by rw [eu, beq_eq_false_iff_ne]; omega
  have x46 : ((u[0]'h0u).toNat : Int) = 46 := by rw [eu]; omega
  have y46 : (((u[0]'h0u).toNat : Int) != 46) = false := by rw [x46]; rfl
  clear eu
  have hXn : X < 10 ^ n := by
    rw [← hX]
    have h := val_lt ha.2.2
    have e : (t.extract 0 n).size = n := by simp only [ByteArray.size_extract]; omega
    rw [e] at h
    exact h
  have hz1 : ((u.size : Int) == 1) = false := by rw [beq_eq_false_iff_ne]; omega
  have hnb : n ≤ 140737488351232 := by omega
  have hub : u.size ≤ 140737488351232 := by omega
  have hu2 : 1 < u.size := by omega
  obtain ⟨v, hv⟩ : ∃ v, u.extract 1 u.size = v := ⟨_, rfl⟩
  have hvt : t.extract (n + 1) t.size = v := by rw [← hv]; exact (ext_ext (by omega) hu).symm
  have hvs : v.size = u.size - 1 := by rw [← hv]; simp only [ByteArray.size_extract]; omega
  have HV := hide' (fun (j : Nat) (h : j + 1 < u.size) => show byt v j = (u[j + 1]'h).toNat by rw [← hv, byt_extract (Nat.le_refl _) (by omega), Nat.add_comm 1 j, byt_of h])
  have HVs := hide' hvs
  rw [hvt] at hT
  have HT := hide' hT
  have hn : n < t.size := by omega
  clear hv hvt hvs hT hn2
  clear hu hus ha hX
  subst hst
  go_enter Tryz.func12, Tryz.ntmps12
  go_wp2_with fail
  generalize w.alloc (.cells #[.bool false, .slice none 0 0, .slice none 0 0] 27) = W at ba qR ⊢
  go_loopw [5] (fun i wr => ∃ k : Nat, k ≤ s.size ∧ i = .int .i64 k ∧ wr = W ∧ ∀ j, j < k → dval (byt s j) < 10) (fun i _ => s.size - (intOf i).toNat)
  case atStart => exact ⟨0, Nat.zero_le _, rfl, rfl, fun j hj => by omega⟩
  case round =>
    obtain ⟨k, hk, rfl, rfl, hj⟩ := hrel
    by_cases hlt : k < s.size
    · have hki : ((k : Int) < (s.size : Int)) := by omega
      have ek := byt_of hlt
      by_cases hv : dval (byt s k) < 10
      · have hv' := dval10.1 hv
        rw [ek] at hv'
        have g1 : (48 : Int) ≤ ((s[k]'hlt).toNat : Int) := by omega
        have g2 : ((s[k]'hlt).toNat : Int) ≤ 57 := by omega
        go_wp2
        go_roundw
        case rel => exact ⟨k + 1, by omega, by go_num, by trivial, fun j hj' => by
          by_cases e : j = k
          · rw [e]; exact hv
          · exact hj j (by omega)⟩
        case measure => simp [intOf]; omega
      · have hv' : ¬ (48 ≤ byt s k ∧ byt s k ≤ 57) := fun c => hv (dval10.2 c)
        rw [ek] at hv'
        have hno : k < s.size → ¬ dval (byt s k) < 10 := fun _ => hv
        by_cases g1 : (48 : Int) ≤ ((s[k]'hlt).toNat : Int)
        · have g2 : ¬ ((s[k]'hlt).toNat : Int) ≤ 57 := by omega
          obtain rfl : k = n := Lead.uniq ⟨hk, hj, hno⟩ hl
          exact absurd g1 (by rw [← ek]; omega)
        · skip
          obtain rfl : k = n := Lead.uniq ⟨hk, hj, hno⟩ hl
          clear hj hno
          go_wp2_with fail
          refine (RPo.out _).mono ?_
          rintro e w1 ⟨a1, rfl, g1s, b1⟩
          have bb := ba
          replace bb := bb.trans (b1.mono bb.size)
          replace qR := qR.later b1
          clear b1 RPo
          have nd := single_new w1 1 58 1 (by omega) rfl
          have b2 := nd.below
          have gD := nd.seg
          replace bb := bb.trans (b2.mono bb.size)
          replace qR := qR.later b2
          replace g1s := segL b2 g1s
          clear b2 nd
          go_wp2_with fail
          generalize w1.alloc (.cells #[.int .u32 1] 58) = W2 at bb qR g1s gD ⊢
          obtain ⟨pd0, hpd0⟩ : ∃ p, (some ⟨w1.heap.size, 0, none⟩ : Option Addr) = p := ⟨_, rfl⟩
          rw [hpd0] at gD
          try rw [hpd0]
          clear hpd0
          clear hsl hz x46 y46 hz1 x47
          go_loopw [6, 11, 12] (fun a d i wr => ∃ (j : Nat) (pa pd : Option Addr) (A D : Nat), j + 1 ≤ u.size ∧ i = .int .i64 ((j + 1 : Nat) : Int) ∧ a = .slice pa (ln A) (ln A) ∧ d = .slice pd (ln D) (ln D) ∧ A = X * 10 ^ j + val 10 (v.extract 0 j) ∧ D = 10 ^ j ∧ Seg wr pa A (ln A) ∧ Seg wr pd D (ln D) ∧ Below w.heap.size w wr ∧ Blk wr w.heap.size #[.bool false, .slice none 0 0, .slice none 0 0] 27 ∧ ∀ m, m < j → dval (byt v m) < 10) (fun _ _ i _ => u.size - (intOf i).toNat)
          case atStart => exact ⟨0, a1, pd0, X, 1, by omega, rfl, rfl, by rw [ln_one], by rw [val_none, Nat.pow_zero]; omega, rfl, g1s, by rw [ln_one]; exact gD, bb, qR, fun m hm => absurd hm (by omega)⟩
          case round =>
            clear bb qR g1s gD
            obtain ⟨j, pa, pd, A, D, hju, rfl, rfl, rfl, hA, hD, gA, gD, bb, qR, hdig⟩ := hrel
            have HA := hide' hA
            have HD := hide' hD
            have HG := hide' hdig
            have lA : ln A ≤ 35184372088000 := by rw [hA]; exact pt_ln hXn (v_lt (by rw [HVs.out]; omega) hdig) (by omega) (by omega)
            have lD : ln D ≤ 35184372088000 := by rw [hD]; have := ten_ln j; omega
            clear hA hD hdig
            by_cases hlt : j + 1 < u.size
            · have hji : (((j + 1 : Nat) : Int) < (u.size : Int)) := by omega
              have ej : byt v j = (u[j + 1]'hlt).toNat := HV.out j hlt
              by_cases hv : dval (byt v j) < 10
              · have hv' := dval10.1 hv
                have g1 : ¬ ((u[j + 1]'hlt).toNat : Int) < 48 := by rw [← ej]; omega
                have g2 : ¬ (57 : Int) < ((u[j + 1]'hlt).toNat : Int) := by rw [← ej]; omega
                have g3 : decide (((u[j + 1]'hlt).toNat : Int) < 48) = false := by rw [decide_eq_false_iff_not]; exact g1
                have g4 : decide ((57 : Int) < ((u[j + 1]'hlt).toNat : Int)) = false := by rw [decide_eq_false_iff_not]; exact g2
                obtain ⟨d, hd⟩ : ∃ d, dval (byt v j) = d := ⟨_, rfl⟩
                have hw8 : IntKind.u8.wrap (((u[j + 1]'hlt).toNat : Int) - 48) = (d : Int) := by rw [← ej, ← hd, dval_dig hv']; exact u8_sub hv'
                have hd10 : d < 10 := by rw [← hd]; exact hv
                have hw32 : IntKind.u32.wrap (d : Int) = (d : Int) := by rw [IntKind.wrap_u32]; omega
                have HE := hide' hd
                clear hd hv' ej g1 g2
                go_wp2_with fail
                have bD : Below wr.heap.size wr wr.drew := (Below.refl _ _).drew
                replace bb := bb.trans (bD.mono bb.size)
                replace gA := gA.later bD
                replace gD := gD.later bD
                replace qR := qR.later bD
                refine wp_region_held_drew (S := fun w' => True) (by kernel_rfl) trivial (fun hHeld => ?_)
                generalize wr.drew = wq0 at bD gA gD qR bb hHeld ⊢
                refine take' 0 (v := ?_) rfl (by kernel_rfl) (by kernel_rfl) (by kernel_rfl) (fun _ _ _ h => h) (Or.inl ⟨by rfl, ?_⟩) (by assumption) ?_
                rotate_left
                · intro w9 hSw
                  go_simp
                  first | done | with_reducible rfl
                simp only [Act.put, List.setIfInBounds_toArray, List.set_cons_zero, List.set_cons_succ]
                refine take' 3 (v := ?_) rfl (by kernel_rfl) (by kernel_rfl) (by kernel_rfl) (fun _ _ _ h => h) (Or.inl ⟨by rfl, ?_⟩) (by assumption) ?_
                rotate_left
                · intro w9 hSw
                  go_simp
                  first | done | with_reducible rfl
                simp only [Act.put, List.setIfInBounds_toArray, List.set_cons_zero, List.set_cons_succ]
                refine take' 4 (v := ?_) rfl (by kernel_rfl) (by kernel_rfl) (by kernel_rfl) (fun _ _ _ h => h) (Or.inl ⟨by rfl, ?_⟩) (by assumption) ?_
                rotate_left
                · intro w9 hSw
                  go_simp
                  first | done | with_reducible rfl
                simp only [Act.put, List.setIfInBounds_toArray, List.set_cons_zero, List.set_cons_succ]
                refine take' 5 (v := ?_) rfl (by kernel_rfl) (by kernel_rfl) (by kernel_rfl) (fun _ _ _ h => h) (Or.inl ⟨by rfl, ?_⟩) (by assumption) ?_
                rotate_left
                · intro w9 hSw
                  go_simp
                  first | done | with_reducible rfl
                simp only [Act.put, List.setIfInBounds_toArray, List.set_cons_zero, List.set_cons_succ]
                refine take' 6 (v := ?_) rfl (by kernel_rfl) (by kernel_rfl) (by kernel_rfl) (fun _ _ _ h => h) (Or.inl ⟨by rfl, ?_⟩) (by assumption) ?_
                rotate_left
                · intro w9 hSw
                  go_simp
                  first | done | with_reducible rfl
                simp only [Act.put, List.setIfInBounds_toArray, List.set_cons_zero, List.set_cons_succ]
                refine take' 7 (v := ?_) rfl (by kernel_rfl) (by kernel_rfl) (by kernel_rfl) (fun _ _ _ h => h) (Or.inl ⟨by rfl, ?_⟩) (by assumption) ?_
                rotate_left
                · intro w9 hSw
                  go_simp
                  first | done | with_reducible rfl
                simp only [Act.put, List.setIfInBounds_toArray, List.set_cons_zero, List.set_cons_succ]
                refine wpAnyH_ready (rs := [1, 8]) (by kernel_rfl) (by simp) ?_
                refine consT rfl (fun KK hKK => ?_) ?_
                · skip
                  go_simp
                  have nT := single_new wq0 10 58 10 (by omega) rfl
                  have bA := nT.below
                  have sT := nT.seg
                  clear nT
                  generalize wq0.alloc (.cells #[.int .u32 10] 58) = wq1 at bA sT ⊢
                  replace bb := bb.trans (bA.mono bb.size)
                  replace gA := gA.later bA
                  replace gD := gD.later bA
                  replace qR := qR.later bA
                  clear bA
                  obtain ⟨cT, hcc⟩ : ∃ cc, wq0.heap.size = cc := ⟨_, rfl⟩
                  rw [hcc] at sT
                  try rw [hcc]
                  clear hcc
                  refine hKK.out _ _ hHeld ?_
                  clear hHeld
                  intro hHeld
                  clear hKK KK
                  try simp only [Act.put, List.setIfInBounds_toArray, List.set_cons_zero, List.set_cons_succ]
                  refine wpAnyH_ready (rs := [2, 8]) (by kernel_rfl) (by simp) ?_
                  refine consT rfl (fun KK hKK => ?_) ?_
                  · skip
                    go_simp
                    refine (rMul_is pa (some ⟨cT, 0, none⟩) (ln A) (ln A) A 1 1 10 (A * 10) _ (by omega) gA sT rfl).mono ?_
                    rintro e wq2 ⟨pM, rfl, nM⟩
                    have bC := nM.below
                    have sM := nM.seg
                    clear nM
                    replace bb := bb.trans (bC.mono bb.size)
                    replace gA := gA.later bC
                    replace gD := gD.later bC
                    replace qR := qR.later bC
                    replace sT := sT.later bC
                    clear bC
                    go_wp2_with fail
                    refine hKK.out _ _ hHeld ?_
                    clear hHeld
                    intro hHeld
                    clear hKK KK
                    try simp only [Act.put, List.setIfInBounds_toArray, List.set_cons_zero, List.set_cons_succ]
                    refine wpAnyH_ready (rs := [8]) (by kernel_rfl) (by simp) ?_
                    refine cons' rfl (fun KK hKK => ?_)
                    go_simp
                    have nE := single_new wq2 d 58 (d : Int) (by omega) rfl
                    have bA := nE.below
                    have sE := nE.seg
                    clear nE
                    generalize wq2.alloc (.cells #[.int .u32 (d : Int)] 58) = wq3 at bA sE ⊢
                    replace bb := bb.trans (bA.mono bb.size)
                    replace gA := gA.later bA
                    replace gD := gD.later bA
                    replace qR := qR.later bA
                    replace sT := sT.later bA
                    replace sM := sM.later bA
                    clear bA
                    obtain ⟨cE, hcc⟩ : ∃ cc, wq2.heap.size = cc := ⟨_, rfl⟩
                    rw [hcc] at sE
                    try rw [hcc]
                    clear hcc
                    refine hKK.out _ _ hHeld ?_
                    clear hHeld
                    intro hHeld
                    clear hKK KK
                    try simp only [Act.put, List.setIfInBounds_toArray, List.set_cons_zero, List.set_cons_succ]
                    have lM : ln (A * 10) ≤ ln A + 1 := ln_prod (ln_lt A) (show 10 < BB ^ 1 by rw [Nat.pow_one, BB_eq]; omega)
                    refine wpAnyH_ready (rs := [9]) (by kernel_rfl) (by simp) ?_
                    refine cons' rfl (fun KK hKK => ?_)
                    go_simp
                    refine (rAdd_any pM (some ⟨cE, 0, none⟩) (ln (A * 10)) (ln (A * 10)) (A * 10) 1 1 d _ (by omega) sM (by omega) sE).mono ?_
                    rintro e wq4 ⟨pS, rfl, nS⟩
                    have bC := nS.below
                    have sS := nS.seg
                    clear nS
                    replace bb := bb.trans (bC.mono bb.size)
                    replace gA := gA.later bC
                    replace gD := gD.later bC
                    replace qR := qR.later bC
                    replace sT := sT.later bC
                    replace sM := sM.later bC
                    replace sE := sE.later bC
                    clear bC
                    go_wp2_with fail
                    refine hKK.out _ _ hHeld ?_
                    clear hHeld
                    intro hHeld
                    clear hKK KK
                    try simp only [Act.put, List.setIfInBounds_toArray, List.set_cons_zero, List.set_cons_succ]
                    refine take' 10 (v := ?_) rfl (by kernel_rfl) (by kernel_rfl) (by kernel_rfl) (fun _ _ _ h => h) (Or.inl ⟨by rfl, ?_⟩) (by assumption) ?_
                    rotate_left
                    · intro w9 hSw
                      go_simp
                      first | done | with_reducible rfl
                    simp only [Act.put, List.setIfInBounds_toArray, List.set_cons_zero, List.set_cons_succ]
                    refine wpAnyH_done (by kernel_rfl) ?_ _
                    clear gA sT sE sM
                    try clear hHeld
                    have nU := single_new wq4 10 58 10 (by omega) rfl
                    have bA := nU.below
                    have sU := nU.seg
                    clear nU
                    replace bb := bb.trans (bA.mono bb.size)
                    replace gD := gD.later bA
                    replace qR := qR.later bA
                    replace sS := sS.later bA
                    clear bA
                    have HM := hide' (rMul_is pd (some ⟨wq4.heap.size, 0, none⟩) (ln D) (ln D) D 1 1 10 (D * 10) _ (by omega) gD sU rfl)
                    go_wp2_with fail
                    refine HM.out.mono ?_
                    clear HM
                    rintro e wz ⟨pE, rfl, nE⟩
                    have bC := nE.below
                    have sE := nE.seg
                    clear nE gD sU
                    replace bb := bb.trans (bC.mono bb.size)
                    replace qR := qR.later bC
                    replace sS := sS.later bC
                    clear bC
                    go_wp2
                    go_roundw
                    case rel => exact ⟨j + 1, pS, pE, A * 10 + d, D * 10, by omega, by go_num, rfl, rfl, pt_step HA.out HE.out (by rw [HVs.out]; omega), by rw [HD.out, Nat.pow_succ], sS, sE, bb, qR, fun m hm => by
                      by_cases e : m = j
                      · rw [e]; exact hv
                      · exact HG.out m (by omega)⟩
                    case measure => simp [intOf]; omega
                  refine consT rfl (fun KK hKK => ?_) ?_
                  · skip
                    go_simp
                    have nE := single_new wq1 d 58 (d : Int) (by omega) rfl
                    have bA := nE.below
                    have sE := nE.seg
                    clear nE
                    generalize wq1.alloc (.cells #[.int .u32 (d : Int)] 58) = wq2 at bA sE ⊢
                    replace bb := bb.trans (bA.mono bb.size)
                    replace gA := gA.later bA
                    replace gD := gD.later bA
                    replace qR := qR.later bA
                    replace sT := sT.later bA
                    clear bA
                    obtain ⟨cE, hcc⟩ : ∃ cc, wq1.heap.size = cc := ⟨_, rfl⟩
                    rw [hcc] at sE
                    try rw [hcc]
                    clear hcc
                    refine hKK.out _ _ hHeld ?_
                    clear hHeld
                    intro hHeld
                    clear hKK KK
                    try simp only [Act.put, List.setIfInBounds_toArray, List.set_cons_zero, List.set_cons_succ]
                    refine wpAnyH_ready (rs := [2]) (by kernel_rfl) (by simp) ?_
                    refine cons' rfl (fun KK hKK => ?_)
                    go_simp
                    refine (rMul_is pa (some ⟨cT, 0, none⟩) (ln A) (ln A) A 1 1 10 (A * 10) _ (by omega) gA sT rfl).mono ?_
                    rintro e wq3 ⟨pM, rfl, nM⟩
                    have bC := nM.below
                    have sM := nM.seg
                    clear nM
                    replace bb := bb.trans (bC.mono bb.size)
                    replace gA := gA.later bC
                    replace gD := gD.later bC
                    replace qR := qR.later bC
                    replace sT := sT.later bC
                    replace sE := sE.later bC
                    clear bC
                    go_wp2_with fail
                    refine hKK.out _ _ hHeld ?_
                    clear hHeld
                    intro hHeld
                    clear hKK KK
                    try simp only [Act.put, List.setIfInBounds_toArray, List.set_cons_zero, List.set_cons_succ]
                    have lM : ln (A * 10) ≤ ln A + 1 := ln_prod (ln_lt A) (show 10 < BB ^ 1 by rw [Nat.pow_one, BB_eq]; omega)
                    refine wpAnyH_ready (rs := [9]) (by kernel_rfl) (by simp) ?_
                    refine cons' rfl (fun KK hKK => ?_)
                    go_simp
                    refine (rAdd_any pM (some ⟨cE, 0, none⟩) (ln (A * 10)) (ln (A * 10)) (A * 10) 1 1 d _ (by omega) sM (by omega) sE).mono ?_
                    rintro e wq4 ⟨pS, rfl, nS⟩
                    have bC := nS.below
                    have sS := nS.seg
                    clear nS
                    replace bb := bb.trans (bC.mono bb.size)
                    replace gA := gA.later bC
                    replace gD := gD.later bC
                    replace qR := qR.later bC
                    replace sT := sT.later bC
                    replace sE := sE.later bC
                    replace sM := sM.later bC
                    clear bC
                    go_wp2_with fail
                    refine hKK.out _ _ hHeld ?_
                    clear hHeld
                    intro hHeld
                    clear hKK KK
                    try simp only [Act.put, List.setIfInBounds_toArray, List.set_cons_zero, List.set_cons_succ]
                    refine take' 10 (v := ?_) rfl (by kernel_rfl) (by kernel_rfl) (by kernel_rfl) (fun _ _ _ h => h) (Or.inl ⟨by rfl, ?_⟩) (by assumption) ?_
                    rotate_left
                    · intro w9 hSw
                      go_simp
                      first | done | with_reducible rfl
                    simp only [Act.put, List.setIfInBounds_toArray, List.set_cons_zero, List.set_cons_succ]
                    refine wpAnyH_done (by kernel_rfl) ?_ _
                    clear gA sT sE sM
                    try clear hHeld
                    have nU := single_new wq4 10 58 10 (by omega) rfl
                    have bA := nU.below
                    have sU := nU.seg
                    clear nU
                    replace bb := bb.trans (bA.mono bb.size)
                    replace gD := gD.later bA
                    replace qR := qR.later bA
                    replace sS := sS.later bA
                    clear bA
                    have HM := hide' (rMul_is pd (some ⟨wq4.heap.size, 0, none⟩) (ln D) (ln D) D 1 1 10 (D * 10) _ (by omega) gD sU rfl)
                    go_wp2_with fail
                    refine HM.out.mono ?_
                    clear HM
                    rintro e wz ⟨pE, rfl, nE⟩
                    have bC := nE.below
                    have sE := nE.seg
                    clear nE gD sU
                    replace bb := bb.trans (bC.mono bb.size)
                    replace qR := qR.later bC
                    replace sS := sS.later bC
                    clear bC
                    go_wp2
                    go_roundw
                    case rel => exact ⟨j + 1, pS, pE, A * 10 + d, D * 10, by omega, by go_num, rfl, rfl, pt_step HA.out HE.out (by rw [HVs.out]; omega), by rw [HD.out, Nat.pow_succ], sS, sE, bb, qR, fun m hm => by
                      by_cases e : m = j
                      · rw [e]; exact hv
                      · exact HG.out m (by omega)⟩
                    case measure => simp [intOf]; omega
                  exact AllReadyH.nil
                refine consT rfl (fun KK hKK => ?_) ?_
                · skip
                  go_simp
                  have nE := single_new wq0 d 58 (d : Int) (by omega) rfl
                  have bA := nE.below
                  have sE := nE.seg
                  clear nE
                  generalize wq0.alloc (.cells #[.int .u32 (d : Int)] 58) = wq1 at bA sE ⊢
                  replace bb := bb.trans (bA.mono bb.size)
                  replace gA := gA.later bA
                  replace gD := gD.later bA
                  replace qR := qR.later bA
                  clear bA
                  obtain ⟨cE, hcc⟩ : ∃ cc, wq0.heap.size = cc := ⟨_, rfl⟩
                  rw [hcc] at sE
                  try rw [hcc]
                  clear hcc
                  refine hKK.out _ _ hHeld ?_
                  clear hHeld
                  intro hHeld
                  clear hKK KK
                  try simp only [Act.put, List.setIfInBounds_toArray, List.set_cons_zero, List.set_cons_succ]
                  refine wpAnyH_ready (rs := [1]) (by kernel_rfl) (by simp) ?_
                  refine cons' rfl (fun KK hKK => ?_)
                  go_simp
                  have nT := single_new wq1 10 58 10 (by omega) rfl
                  have bA := nT.below
                  have sT := nT.seg
                  clear nT
                  generalize wq1.alloc (.cells #[.int .u32 10] 58) = wq2 at bA sT ⊢
                  replace bb := bb.trans (bA.mono bb.size)
                  replace gA := gA.later bA
                  replace gD := gD.later bA
                  replace qR := qR.later bA
                  replace sE := sE.later bA
                  clear bA
                  obtain ⟨cT, hcc⟩ : ∃ cc, wq1.heap.size = cc := ⟨_, rfl⟩
                  rw [hcc] at sT
                  try rw [hcc]
                  clear hcc
                  refine hKK.out _ _ hHeld ?_
                  clear hHeld
                  intro hHeld
                  clear hKK KK
                  try simp only [Act.put, List.setIfInBounds_toArray, List.set_cons_zero, List.set_cons_succ]
                  refine wpAnyH_ready (rs := [2]) (by kernel_rfl) (by simp) ?_
                  refine cons' rfl (fun KK hKK => ?_)
                  go_simp
                  refine (rMul_is pa (some ⟨cT, 0, none⟩) (ln A) (ln A) A 1 1 10 (A * 10) _ (by omega) gA sT rfl).mono ?_
                  rintro e wq3 ⟨pM, rfl, nM⟩
                  have bC := nM.below
                  have sM := nM.seg
                  clear nM
                  replace bb := bb.trans (bC.mono bb.size)
                  replace gA := gA.later bC
                  replace gD := gD.later bC
                  replace qR := qR.later bC
                  replace sE := sE.later bC
                  replace sT := sT.later bC
                  clear bC
                  go_wp2_with fail
                  refine hKK.out _ _ hHeld ?_
                  clear hHeld
                  intro hHeld
                  clear hKK KK
                  try simp only [Act.put, List.setIfInBounds_toArray, List.set_cons_zero, List.set_cons_succ]
                  have lM : ln (A * 10) ≤ ln A + 1 := ln_prod (ln_lt A) (show 10 < BB ^ 1 by rw [Nat.pow_one, BB_eq]; omega)
                  refine wpAnyH_ready (rs := [9]) (by kernel_rfl) (by simp) ?_
                  refine cons' rfl (fun KK hKK => ?_)
                  go_simp
                  refine (rAdd_any pM (some ⟨cE, 0, none⟩) (ln (A * 10)) (ln (A * 10)) (A * 10) 1 1 d _ (by omega) sM (by omega) sE).mono ?_
                  rintro e wq4 ⟨pS, rfl, nS⟩
                  have bC := nS.below
                  have sS := nS.seg
                  clear nS
                  replace bb := bb.trans (bC.mono bb.size)
                  replace gA := gA.later bC
                  replace gD := gD.later bC
                  replace qR := qR.later bC
                  replace sE := sE.later bC
                  replace sT := sT.later bC
                  replace sM := sM.later bC
                  clear bC
                  go_wp2_with fail
                  refine hKK.out _ _ hHeld ?_
                  clear hHeld
                  intro hHeld
                  clear hKK KK
                  try simp only [Act.put, List.setIfInBounds_toArray, List.set_cons_zero, List.set_cons_succ]
                  refine take' 10 (v := ?_) rfl (by kernel_rfl) (by kernel_rfl) (by kernel_rfl) (fun _ _ _ h => h) (Or.inl ⟨by rfl, ?_⟩) (by assumption) ?_
                  rotate_left
                  · intro w9 hSw
                    go_simp
                    first | done | with_reducible rfl
                  simp only [Act.put, List.setIfInBounds_toArray, List.set_cons_zero, List.set_cons_succ]
                  refine wpAnyH_done (by kernel_rfl) ?_ _
                  clear gA sT sE sM
                  try clear hHeld
                  have nU := single_new wq4 10 58 10 (by omega) rfl
                  have bA := nU.below
                  have sU := nU.seg
                  clear nU
                  replace bb := bb.trans (bA.mono bb.size)
                  replace gD := gD.later bA
                  replace qR := qR.later bA
                  replace sS := sS.later bA
                  clear bA
                  have HM := hide' (rMul_is pd (some ⟨wq4.heap.size, 0, none⟩) (ln D) (ln D) D 1 1 10 (D * 10) _ (by omega) gD sU rfl)
                  go_wp2_with fail
                  refine HM.out.mono ?_
                  clear HM
                  rintro e wz ⟨pE, rfl, nE⟩
                  have bC := nE.below
                  have sE := nE.seg
                  clear nE gD sU
                  replace bb := bb.trans (bC.mono bb.size)
                  replace qR := qR.later bC
                  replace sS := sS.later bC
                  clear bC
                  go_wp2
                  go_roundw
                  case rel => exact ⟨j + 1, pS, pE, A * 10 + d, D * 10, by omega, by go_num, rfl, rfl, pt_step HA.out HE.out (by rw [HVs.out]; omega), by rw [HD.out, Nat.pow_succ], sS, sE, bb, qR, fun m hm => by
                    by_cases e : m = j
                    · rw [e]; exact hv
                    · exact HG.out m (by omega)⟩
                  case measure => simp [intOf]; omega
                exact AllReadyH.nil
              · skip
                have hv' : ¬ (48 ≤ byt v j ∧ byt v j ≤ 57) := fun c => hv (dval10.2 c)
                rw [ej] at hv'
                by_cases g1 : ((u[j + 1]'hlt).toNat : Int) < 48
                · clear ej hv'
                  have v0 := qR.cell 0
                  have v1 := qR.cell 1
                  have v2 := qR.cell 2
                  simp only [List.getElem?_toArray, List.getElem?_cons_zero, List.getElem?_cons_succ] at v0 v1 v2
                  have fz := fun o => qR.frozen o
                  go_wp2
                  obtain ⟨c9, q9⟩ := qR.set3 (.bool false) (.slice none 0 0) (.slice none 0 0)
                  have z0 := q9.cell 0
                  have z1 := q9.cell 1
                  have z2 := q9.cell 2
                  simp only [List.getElem?_toArray, List.getElem?_cons_zero, List.getElem?_cons_succ] at z0 z1 z2
                  clear v0 v1 v2
                  refine bodyPost_ret (v := .tuple #[.agg #[.bool false, .slice none 0 0, .slice none 0 0], .int .i64 31]) (by rw [results_ct rfl]; go_simp) rfl ?_
                  exact ⟨rfl, bb.trans (c9.below (Nat.le_refl _))⟩
                · have g2 : (57 : Int) < ((u[j + 1]'hlt).toNat : Int) := by omega
                  have g3 : decide (((u[j + 1]'hlt).toNat : Int) < 48) = false := by rw [decide_eq_false_iff_not]; exact g1
                  clear ej hv' g1
                  have v0 := qR.cell 0
                  have v1 := qR.cell 1
                  have v2 := qR.cell 2
                  simp only [List.getElem?_toArray, List.getElem?_cons_zero, List.getElem?_cons_succ] at v0 v1 v2
                  have fz := fun o => qR.frozen o
                  go_wp2
                  obtain ⟨c9, q9⟩ := qR.set3 (.bool false) (.slice none 0 0) (.slice none 0 0)
                  have z0 := q9.cell 0
                  have z1 := q9.cell 1
                  have z2 := q9.cell 2
                  simp only [List.getElem?_toArray, List.getElem?_cons_zero, List.getElem?_cons_succ] at z0 z1 z2
                  clear v0 v1 v2
                  refine bodyPost_ret (v := .tuple #[.agg #[.bool false, .slice none 0 0, .slice none 0 0], .int .i64 31]) (by rw [results_ct rfl]; go_simp) rfl ?_
                  exact ⟨rfl, bb.trans (c9.below (Nat.le_refl _))⟩
            · skip
              exact absurd ⟨by rw [HVs.out]; omega, fun m hm => HG.out m (by rw [HVs.out] at hm; omega)⟩ HT.out
    · have hki : ¬ ((k : Int) < (s.size : Int)) := by omega
      have hno : k < s.size → ¬ dval (byt s k) < 10 := fun c => absurd c hlt
      obtain rfl : k = n := Lead.uniq ⟨hk, hj, hno⟩ hl
      exact absurd hn hlt

set_option maxHeartbeats 4000000 in
set_option maxRecDepth 100000 in
theorem vqParse_pointBad_ng (s t : ByteArray) (n X : Nat) (hs : s.size ≤ 140737488351232) (h0 : 0 < s.size) (hm : byt s 0 = 45) (hst : s.extract 1 s.size = t) (hl : Lead t n) (ha : isT 10 (t.extract 0 n)) (hX : val 10 (t.extract 0 n) = X) (hn2 : n + 1 < t.size) (h46 : byt t n = 46) (hT : ¬ tl10 (t.extract (n + 1) t.size)) (w : World) : Calls Tryz.prog 12 #[.string s] w fun e w' => e = .returned (.tuple #[.agg #[.bool false, .slice none 0 0, .slice none 0 0], .int .i64 31]) ∧ Below w.heap.size w w' := by
  have h0i : (0 : Int) < (s.size : Int) := by omega
  have eb := byt_of h0
  have hx : (((s[0]'h0).toNat : Int) == 45) = true := by
    rw [← eb, beq_iff_eq]; omega
  have h1i : (1 : Int) ≤ (s.size : Int) := by omega
  have h1n : 1 ≤ s.size := by omega
  have ht : t.size ≤ s.size := by subst hst; first | exact Nat.le_refl _ | (simp only [ByteArray.size_extract]; omega)
  have ez : (t.extract 0 n).size ≤ t.size := by simp only [ByteArray.size_extract]; omega
  have RPo := hide' (fun w' => rParse_ok (t.extract 0 n) X (by omega) ha hX w')
  have lX : ln X ≤ 35184372088000 := by rw [← hX]; have := val_ln ha.2.2; omega
  have ba := below_alloc (w := w) (.cells #[.bool false, .slice none 0 0, .slice none 0 0] 27)
  have qR := Blk.new w #[.bool false, .slice none 0 0, .slice none 0 0] 27
  have hn0 : n < t.size := by omega
  obtain ⟨u, hu⟩ : ∃ u, t.extract n t.size = u := ⟨_, rfl⟩
  have hus : u.size = t.size - n := by rw [← hu]; simp only [ByteArray.size_extract]; omega
  have hsl : ∀ wx : World, (Instr.slice 9 (.string t) (some (.int .i64 (n : Nat))) none none).run Tryz.prog wx = .ok (.string u) wx := fun wx => by
    have h := run_slice_string_l (P := Tryz.prog) (t := 9) (s := t) (w := wx) Tryz.underlying9 .i64 (n : Nat) (by omega) (by have := hl.le; omega)
    rw [Int.toNat_natCast, hu] at h
    exact h
  clear hn0
  have h0u : 0 < u.size := by omega
  have h0ui : (0 : Int) < (u.size : Int) := by omega
  have hz : ((u.size : Int) == 0) = false := by rw [beq_eq_false_iff_ne]; omega
  have eu : (u[0]'h0u).toNat = byt t n := by
    rw [← byt_of h0u, ← hu, byt_extract (Nat.le_refl _) (by omega), Nat.add_zero]
  have x47 : (((u[0]'h0u).toNat : Int) == 47) = false := by rw [eu, beq_eq_false_iff_ne]; omega
  have x46 : ((u[0]'h0u).toNat : Int) = 46 := by rw [eu]; omega
  have y46 : (((u[0]'h0u).toNat : Int) != 46) = false := by rw [x46]; rfl
  clear eu
  have hXn : X < 10 ^ n := by
    rw [← hX]
    have h := val_lt ha.2.2
    have e : (t.extract 0 n).size = n := by simp only [ByteArray.size_extract]; omega
    rw [e] at h
    exact h
  have hz1 : ((u.size : Int) == 1) = false := by rw [beq_eq_false_iff_ne]; omega
  have hnb : n ≤ 140737488351232 := by omega
  have hub : u.size ≤ 140737488351232 := by omega
  have hu2 : 1 < u.size := by omega
  obtain ⟨v, hv⟩ : ∃ v, u.extract 1 u.size = v := ⟨_, rfl⟩
  have hvt : t.extract (n + 1) t.size = v := by rw [← hv]; exact (ext_ext (by omega) hu).symm
  have hvs : v.size = u.size - 1 := by rw [← hv]; simp only [ByteArray.size_extract]; omega
  have HV := hide' (fun (j : Nat) (h : j + 1 < u.size) => show byt v j = (u[j + 1]'h).toNat by rw [← hv, byt_extract (Nat.le_refl _) (by omega), Nat.add_comm 1 j, byt_of h])
  have HVs := hide' hvs
  rw [hvt] at hT
  have HT := hide' hT
  have hn : n < t.size := by omega
  clear hv hvt hvs hT hn2
  clear hu hus ha hX
  go_enter Tryz.func12, Tryz.ntmps12
  go_wp2_with fail
  try rw [hst]
  generalize w.alloc (.cells #[.bool false, .slice none 0 0, .slice none 0 0] 27) = W at ba qR ⊢
  go_loopw [5] (fun i wr => ∃ k : Nat, k ≤ t.size ∧ i = .int .i64 k ∧ wr = W ∧ ∀ j, j < k → dval (byt t j) < 10) (fun i _ => t.size - (intOf i).toNat)
  case atStart => exact ⟨0, Nat.zero_le _, rfl, rfl, fun j hj => by omega⟩
  case round =>
    obtain ⟨k, hk, rfl, rfl, hj⟩ := hrel
    by_cases hlt : k < t.size
    · have hki : ((k : Int) < (t.size : Int)) := by omega
      have ek := byt_of hlt
      by_cases hv : dval (byt t k) < 10
      · have hv' := dval10.1 hv
        rw [ek] at hv'
        have g1 : (48 : Int) ≤ ((t[k]'hlt).toNat : Int) := by omega
        have g2 : ((t[k]'hlt).toNat : Int) ≤ 57 := by omega
        go_wp2
        go_roundw
        case rel => exact ⟨k + 1, by omega, by go_num, by trivial, fun j hj' => by
          by_cases e : j = k
          · rw [e]; exact hv
          · exact hj j (by omega)⟩
        case measure => simp [intOf]; omega
      · have hv' : ¬ (48 ≤ byt t k ∧ byt t k ≤ 57) := fun c => hv (dval10.2 c)
        rw [ek] at hv'
        have hno : k < t.size → ¬ dval (byt t k) < 10 := fun _ => hv
        by_cases g1 : (48 : Int) ≤ ((t[k]'hlt).toNat : Int)
        · have g2 : ¬ ((t[k]'hlt).toNat : Int) ≤ 57 := by omega
          obtain rfl : k = n := Lead.uniq ⟨hk, hj, hno⟩ hl
          exact absurd g1 (by rw [← ek]; omega)
        · skip
          obtain rfl : k = n := Lead.uniq ⟨hk, hj, hno⟩ hl
          clear hj hno
          go_wp2_with fail
          refine (RPo.out _).mono ?_
          rintro e w1 ⟨a1, rfl, g1s, b1⟩
          have bb := ba
          replace bb := bb.trans (b1.mono bb.size)
          replace qR := qR.later b1
          clear b1 RPo
          have nd := single_new w1 1 58 1 (by omega) rfl
          have b2 := nd.below
          have gD := nd.seg
          replace bb := bb.trans (b2.mono bb.size)
          replace qR := qR.later b2
          replace g1s := segL b2 g1s
          clear b2 nd
          go_wp2_with fail
          generalize w1.alloc (.cells #[.int .u32 1] 58) = W2 at bb qR g1s gD ⊢
          obtain ⟨pd0, hpd0⟩ : ∃ p, (some ⟨w1.heap.size, 0, none⟩ : Option Addr) = p := ⟨_, rfl⟩
          rw [hpd0] at gD
          try rw [hpd0]
          clear hpd0
          clear hsl hz x46 y46 hz1 x47
          go_loopw [6, 11, 12] (fun a d i wr => ∃ (j : Nat) (pa pd : Option Addr) (A D : Nat), j + 1 ≤ u.size ∧ i = .int .i64 ((j + 1 : Nat) : Int) ∧ a = .slice pa (ln A) (ln A) ∧ d = .slice pd (ln D) (ln D) ∧ A = X * 10 ^ j + val 10 (v.extract 0 j) ∧ D = 10 ^ j ∧ Seg wr pa A (ln A) ∧ Seg wr pd D (ln D) ∧ Below w.heap.size w wr ∧ Blk wr w.heap.size #[.bool false, .slice none 0 0, .slice none 0 0] 27 ∧ ∀ m, m < j → dval (byt v m) < 10) (fun _ _ i _ => u.size - (intOf i).toNat)
          case atStart => exact ⟨0, a1, pd0, X, 1, by omega, rfl, rfl, by rw [ln_one], by rw [val_none, Nat.pow_zero]; omega, rfl, g1s, by rw [ln_one]; exact gD, bb, qR, fun m hm => absurd hm (by omega)⟩
          case round =>
            clear bb qR g1s gD
            obtain ⟨j, pa, pd, A, D, hju, rfl, rfl, rfl, hA, hD, gA, gD, bb, qR, hdig⟩ := hrel
            have HA := hide' hA
            have HD := hide' hD
            have HG := hide' hdig
            have lA : ln A ≤ 35184372088000 := by rw [hA]; exact pt_ln hXn (v_lt (by rw [HVs.out]; omega) hdig) (by omega) (by omega)
            have lD : ln D ≤ 35184372088000 := by rw [hD]; have := ten_ln j; omega
            clear hA hD hdig
            by_cases hlt : j + 1 < u.size
            · have hji : (((j + 1 : Nat) : Int) < (u.size : Int)) := by omega
              have ej : byt v j = (u[j + 1]'hlt).toNat := HV.out j hlt
              by_cases hv : dval (byt v j) < 10
              · have hv' := dval10.1 hv
                have g1 : ¬ ((u[j + 1]'hlt).toNat : Int) < 48 := by rw [← ej]; omega
                have g2 : ¬ (57 : Int) < ((u[j + 1]'hlt).toNat : Int) := by rw [← ej]; omega
                have g3 : decide (((u[j + 1]'hlt).toNat : Int) < 48) = false := by rw [decide_eq_false_iff_not]; exact g1
                have g4 : decide ((57 : Int) < ((u[j + 1]'hlt).toNat : Int)) = false := by rw [decide_eq_false_iff_not]; exact g2
                obtain ⟨d, hd⟩ : ∃ d, dval (byt v j) = d := ⟨_, rfl⟩
                have hw8 : IntKind.u8.wrap (((u[j + 1]'hlt).toNat : Int) - 48) = (d : Int) := by rw [← ej, ← hd, dval_dig hv']; exact u8_sub hv'
                have hd10 : d < 10 := by rw [← hd]; exact hv
                have hw32 : IntKind.u32.wrap (d : Int) = (d : Int) := by rw [IntKind.wrap_u32]; omega
                have HE := hide' hd
                clear hd hv' ej g1 g2
                go_wp2_with fail
                have bD : Below wr.heap.size wr wr.drew := (Below.refl _ _).drew
                replace bb := bb.trans (bD.mono bb.size)
                replace gA := gA.later bD
                replace gD := gD.later bD
                replace qR := qR.later bD
                refine wp_region_held_drew (S := fun w' => True) (by kernel_rfl) trivial (fun hHeld => ?_)
                generalize wr.drew = wq0 at bD gA gD qR bb hHeld ⊢
                refine take' 0 (v := ?_) rfl (by kernel_rfl) (by kernel_rfl) (by kernel_rfl) (fun _ _ _ h => h) (Or.inl ⟨by rfl, ?_⟩) (by assumption) ?_
                rotate_left
                · intro w9 hSw
                  go_simp
                  first | done | with_reducible rfl
                simp only [Act.put, List.setIfInBounds_toArray, List.set_cons_zero, List.set_cons_succ]
                refine take' 3 (v := ?_) rfl (by kernel_rfl) (by kernel_rfl) (by kernel_rfl) (fun _ _ _ h => h) (Or.inl ⟨by rfl, ?_⟩) (by assumption) ?_
                rotate_left
                · intro w9 hSw
                  go_simp
                  first | done | with_reducible rfl
                simp only [Act.put, List.setIfInBounds_toArray, List.set_cons_zero, List.set_cons_succ]
                refine take' 4 (v := ?_) rfl (by kernel_rfl) (by kernel_rfl) (by kernel_rfl) (fun _ _ _ h => h) (Or.inl ⟨by rfl, ?_⟩) (by assumption) ?_
                rotate_left
                · intro w9 hSw
                  go_simp
                  first | done | with_reducible rfl
                simp only [Act.put, List.setIfInBounds_toArray, List.set_cons_zero, List.set_cons_succ]
                refine take' 5 (v := ?_) rfl (by kernel_rfl) (by kernel_rfl) (by kernel_rfl) (fun _ _ _ h => h) (Or.inl ⟨by rfl, ?_⟩) (by assumption) ?_
                rotate_left
                · intro w9 hSw
                  go_simp
                  first | done | with_reducible rfl
                simp only [Act.put, List.setIfInBounds_toArray, List.set_cons_zero, List.set_cons_succ]
                refine take' 6 (v := ?_) rfl (by kernel_rfl) (by kernel_rfl) (by kernel_rfl) (fun _ _ _ h => h) (Or.inl ⟨by rfl, ?_⟩) (by assumption) ?_
                rotate_left
                · intro w9 hSw
                  go_simp
                  first | done | with_reducible rfl
                simp only [Act.put, List.setIfInBounds_toArray, List.set_cons_zero, List.set_cons_succ]
                refine take' 7 (v := ?_) rfl (by kernel_rfl) (by kernel_rfl) (by kernel_rfl) (fun _ _ _ h => h) (Or.inl ⟨by rfl, ?_⟩) (by assumption) ?_
                rotate_left
                · intro w9 hSw
                  go_simp
                  first | done | with_reducible rfl
                simp only [Act.put, List.setIfInBounds_toArray, List.set_cons_zero, List.set_cons_succ]
                refine wpAnyH_ready (rs := [1, 8]) (by kernel_rfl) (by simp) ?_
                refine consT rfl (fun KK hKK => ?_) ?_
                · skip
                  go_simp
                  have nT := single_new wq0 10 58 10 (by omega) rfl
                  have bA := nT.below
                  have sT := nT.seg
                  clear nT
                  generalize wq0.alloc (.cells #[.int .u32 10] 58) = wq1 at bA sT ⊢
                  replace bb := bb.trans (bA.mono bb.size)
                  replace gA := gA.later bA
                  replace gD := gD.later bA
                  replace qR := qR.later bA
                  clear bA
                  obtain ⟨cT, hcc⟩ : ∃ cc, wq0.heap.size = cc := ⟨_, rfl⟩
                  rw [hcc] at sT
                  try rw [hcc]
                  clear hcc
                  refine hKK.out _ _ hHeld ?_
                  clear hHeld
                  intro hHeld
                  clear hKK KK
                  try simp only [Act.put, List.setIfInBounds_toArray, List.set_cons_zero, List.set_cons_succ]
                  refine wpAnyH_ready (rs := [2, 8]) (by kernel_rfl) (by simp) ?_
                  refine consT rfl (fun KK hKK => ?_) ?_
                  · skip
                    go_simp
                    refine (rMul_is pa (some ⟨cT, 0, none⟩) (ln A) (ln A) A 1 1 10 (A * 10) _ (by omega) gA sT rfl).mono ?_
                    rintro e wq2 ⟨pM, rfl, nM⟩
                    have bC := nM.below
                    have sM := nM.seg
                    clear nM
                    replace bb := bb.trans (bC.mono bb.size)
                    replace gA := gA.later bC
                    replace gD := gD.later bC
                    replace qR := qR.later bC
                    replace sT := sT.later bC
                    clear bC
                    go_wp2_with fail
                    refine hKK.out _ _ hHeld ?_
                    clear hHeld
                    intro hHeld
                    clear hKK KK
                    try simp only [Act.put, List.setIfInBounds_toArray, List.set_cons_zero, List.set_cons_succ]
                    refine wpAnyH_ready (rs := [8]) (by kernel_rfl) (by simp) ?_
                    refine cons' rfl (fun KK hKK => ?_)
                    go_simp
                    have nE := single_new wq2 d 58 (d : Int) (by omega) rfl
                    have bA := nE.below
                    have sE := nE.seg
                    clear nE
                    generalize wq2.alloc (.cells #[.int .u32 (d : Int)] 58) = wq3 at bA sE ⊢
                    replace bb := bb.trans (bA.mono bb.size)
                    replace gA := gA.later bA
                    replace gD := gD.later bA
                    replace qR := qR.later bA
                    replace sT := sT.later bA
                    replace sM := sM.later bA
                    clear bA
                    obtain ⟨cE, hcc⟩ : ∃ cc, wq2.heap.size = cc := ⟨_, rfl⟩
                    rw [hcc] at sE
                    try rw [hcc]
                    clear hcc
                    refine hKK.out _ _ hHeld ?_
                    clear hHeld
                    intro hHeld
                    clear hKK KK
                    try simp only [Act.put, List.setIfInBounds_toArray, List.set_cons_zero, List.set_cons_succ]
                    have lM : ln (A * 10) ≤ ln A + 1 := ln_prod (ln_lt A) (show 10 < BB ^ 1 by rw [Nat.pow_one, BB_eq]; omega)
                    refine wpAnyH_ready (rs := [9]) (by kernel_rfl) (by simp) ?_
                    refine cons' rfl (fun KK hKK => ?_)
                    go_simp
                    refine (rAdd_any pM (some ⟨cE, 0, none⟩) (ln (A * 10)) (ln (A * 10)) (A * 10) 1 1 d _ (by omega) sM (by omega) sE).mono ?_
                    rintro e wq4 ⟨pS, rfl, nS⟩
                    have bC := nS.below
                    have sS := nS.seg
                    clear nS
                    replace bb := bb.trans (bC.mono bb.size)
                    replace gA := gA.later bC
                    replace gD := gD.later bC
                    replace qR := qR.later bC
                    replace sT := sT.later bC
                    replace sM := sM.later bC
                    replace sE := sE.later bC
                    clear bC
                    go_wp2_with fail
                    refine hKK.out _ _ hHeld ?_
                    clear hHeld
                    intro hHeld
                    clear hKK KK
                    try simp only [Act.put, List.setIfInBounds_toArray, List.set_cons_zero, List.set_cons_succ]
                    refine take' 10 (v := ?_) rfl (by kernel_rfl) (by kernel_rfl) (by kernel_rfl) (fun _ _ _ h => h) (Or.inl ⟨by rfl, ?_⟩) (by assumption) ?_
                    rotate_left
                    · intro w9 hSw
                      go_simp
                      first | done | with_reducible rfl
                    simp only [Act.put, List.setIfInBounds_toArray, List.set_cons_zero, List.set_cons_succ]
                    refine wpAnyH_done (by kernel_rfl) ?_ _
                    clear gA sT sE sM
                    try clear hHeld
                    have nU := single_new wq4 10 58 10 (by omega) rfl
                    have bA := nU.below
                    have sU := nU.seg
                    clear nU
                    replace bb := bb.trans (bA.mono bb.size)
                    replace gD := gD.later bA
                    replace qR := qR.later bA
                    replace sS := sS.later bA
                    clear bA
                    have HM := hide' (rMul_is pd (some ⟨wq4.heap.size, 0, none⟩) (ln D) (ln D) D 1 1 10 (D * 10) _ (by omega) gD sU rfl)
                    go_wp2_with fail
                    refine HM.out.mono ?_
                    clear HM
                    rintro e wz ⟨pE, rfl, nE⟩
                    have bC := nE.below
                    have sE := nE.seg
                    clear nE gD sU
                    replace bb := bb.trans (bC.mono bb.size)
                    replace qR := qR.later bC
                    replace sS := sS.later bC
                    clear bC
                    go_wp2
                    go_roundw
                    case rel => exact ⟨j + 1, pS, pE, A * 10 + d, D * 10, by omega, by go_num, rfl, rfl, pt_step HA.out HE.out (by rw [HVs.out]; omega), by rw [HD.out, Nat.pow_succ], sS, sE, bb, qR, fun m hm => by
                      by_cases e : m = j
                      · rw [e]; exact hv
                      · exact HG.out m (by omega)⟩
                    case measure => simp [intOf]; omega
                  refine consT rfl (fun KK hKK => ?_) ?_
                  · skip
                    go_simp
                    have nE := single_new wq1 d 58 (d : Int) (by omega) rfl
                    have bA := nE.below
                    have sE := nE.seg
                    clear nE
                    generalize wq1.alloc (.cells #[.int .u32 (d : Int)] 58) = wq2 at bA sE ⊢
                    replace bb := bb.trans (bA.mono bb.size)
                    replace gA := gA.later bA
                    replace gD := gD.later bA
                    replace qR := qR.later bA
                    replace sT := sT.later bA
                    clear bA
                    obtain ⟨cE, hcc⟩ : ∃ cc, wq1.heap.size = cc := ⟨_, rfl⟩
                    rw [hcc] at sE
                    try rw [hcc]
                    clear hcc
                    refine hKK.out _ _ hHeld ?_
                    clear hHeld
                    intro hHeld
                    clear hKK KK
                    try simp only [Act.put, List.setIfInBounds_toArray, List.set_cons_zero, List.set_cons_succ]
                    refine wpAnyH_ready (rs := [2]) (by kernel_rfl) (by simp) ?_
                    refine cons' rfl (fun KK hKK => ?_)
                    go_simp
                    refine (rMul_is pa (some ⟨cT, 0, none⟩) (ln A) (ln A) A 1 1 10 (A * 10) _ (by omega) gA sT rfl).mono ?_
                    rintro e wq3 ⟨pM, rfl, nM⟩
                    have bC := nM.below
                    have sM := nM.seg
                    clear nM
                    replace bb := bb.trans (bC.mono bb.size)
                    replace gA := gA.later bC
                    replace gD := gD.later bC
                    replace qR := qR.later bC
                    replace sT := sT.later bC
                    replace sE := sE.later bC
                    clear bC
                    go_wp2_with fail
                    refine hKK.out _ _ hHeld ?_
                    clear hHeld
                    intro hHeld
                    clear hKK KK
                    try simp only [Act.put, List.setIfInBounds_toArray, List.set_cons_zero, List.set_cons_succ]
                    have lM : ln (A * 10) ≤ ln A + 1 := ln_prod (ln_lt A) (show 10 < BB ^ 1 by rw [Nat.pow_one, BB_eq]; omega)
                    refine wpAnyH_ready (rs := [9]) (by kernel_rfl) (by simp) ?_
                    refine cons' rfl (fun KK hKK => ?_)
                    go_simp
                    refine (rAdd_any pM (some ⟨cE, 0, none⟩) (ln (A * 10)) (ln (A * 10)) (A * 10) 1 1 d _ (by omega) sM (by omega) sE).mono ?_
                    rintro e wq4 ⟨pS, rfl, nS⟩
                    have bC := nS.below
                    have sS := nS.seg
                    clear nS
                    replace bb := bb.trans (bC.mono bb.size)
                    replace gA := gA.later bC
                    replace gD := gD.later bC
                    replace qR := qR.later bC
                    replace sT := sT.later bC
                    replace sE := sE.later bC
                    replace sM := sM.later bC
                    clear bC
                    go_wp2_with fail
                    refine hKK.out _ _ hHeld ?_
                    clear hHeld
                    intro hHeld
                    clear hKK KK
                    try simp only [Act.put, List.setIfInBounds_toArray, List.set_cons_zero, List.set_cons_succ]
                    refine take' 10 (v := ?_) rfl (by kernel_rfl) (by kernel_rfl) (by kernel_rfl) (fun _ _ _ h => h) (Or.inl ⟨by rfl, ?_⟩) (by assumption) ?_
                    rotate_left
                    · intro w9 hSw
                      go_simp
                      first | done | with_reducible rfl
                    simp only [Act.put, List.setIfInBounds_toArray, List.set_cons_zero, List.set_cons_succ]
                    refine wpAnyH_done (by kernel_rfl) ?_ _
                    clear gA sT sE sM
                    try clear hHeld
                    have nU := single_new wq4 10 58 10 (by omega) rfl
                    have bA := nU.below
                    have sU := nU.seg
                    clear nU
                    replace bb := bb.trans (bA.mono bb.size)
                    replace gD := gD.later bA
                    replace qR := qR.later bA
                    replace sS := sS.later bA
                    clear bA
                    have HM := hide' (rMul_is pd (some ⟨wq4.heap.size, 0, none⟩) (ln D) (ln D) D 1 1 10 (D * 10) _ (by omega) gD sU rfl)
                    go_wp2_with fail
                    refine HM.out.mono ?_
                    clear HM
                    rintro e wz ⟨pE, rfl, nE⟩
                    have bC := nE.below
                    have sE := nE.seg
                    clear nE gD sU
                    replace bb := bb.trans (bC.mono bb.size)
                    replace qR := qR.later bC
                    replace sS := sS.later bC
                    clear bC
                    go_wp2
                    go_roundw
                    case rel => exact ⟨j + 1, pS, pE, A * 10 + d, D * 10, by omega, by go_num, rfl, rfl, pt_step HA.out HE.out (by rw [HVs.out]; omega), by rw [HD.out, Nat.pow_succ], sS, sE, bb, qR, fun m hm => by
                      by_cases e : m = j
                      · rw [e]; exact hv
                      · exact HG.out m (by omega)⟩
                    case measure => simp [intOf]; omega
                  exact AllReadyH.nil
                refine consT rfl (fun KK hKK => ?_) ?_
                · skip
                  go_simp
                  have nE := single_new wq0 d 58 (d : Int) (by omega) rfl
                  have bA := nE.below
                  have sE := nE.seg
                  clear nE
                  generalize wq0.alloc (.cells #[.int .u32 (d : Int)] 58) = wq1 at bA sE ⊢
                  replace bb := bb.trans (bA.mono bb.size)
                  replace gA := gA.later bA
                  replace gD := gD.later bA
                  replace qR := qR.later bA
                  clear bA
                  obtain ⟨cE, hcc⟩ : ∃ cc, wq0.heap.size = cc := ⟨_, rfl⟩
                  rw [hcc] at sE
                  try rw [hcc]
                  clear hcc
                  refine hKK.out _ _ hHeld ?_
                  clear hHeld
                  intro hHeld
                  clear hKK KK
                  try simp only [Act.put, List.setIfInBounds_toArray, List.set_cons_zero, List.set_cons_succ]
                  refine wpAnyH_ready (rs := [1]) (by kernel_rfl) (by simp) ?_
                  refine cons' rfl (fun KK hKK => ?_)
                  go_simp
                  have nT := single_new wq1 10 58 10 (by omega) rfl
                  have bA := nT.below
                  have sT := nT.seg
                  clear nT
                  generalize wq1.alloc (.cells #[.int .u32 10] 58) = wq2 at bA sT ⊢
                  replace bb := bb.trans (bA.mono bb.size)
                  replace gA := gA.later bA
                  replace gD := gD.later bA
                  replace qR := qR.later bA
                  replace sE := sE.later bA
                  clear bA
                  obtain ⟨cT, hcc⟩ : ∃ cc, wq1.heap.size = cc := ⟨_, rfl⟩
                  rw [hcc] at sT
                  try rw [hcc]
                  clear hcc
                  refine hKK.out _ _ hHeld ?_
                  clear hHeld
                  intro hHeld
                  clear hKK KK
                  try simp only [Act.put, List.setIfInBounds_toArray, List.set_cons_zero, List.set_cons_succ]
                  refine wpAnyH_ready (rs := [2]) (by kernel_rfl) (by simp) ?_
                  refine cons' rfl (fun KK hKK => ?_)
                  go_simp
                  refine (rMul_is pa (some ⟨cT, 0, none⟩) (ln A) (ln A) A 1 1 10 (A * 10) _ (by omega) gA sT rfl).mono ?_
                  rintro e wq3 ⟨pM, rfl, nM⟩
                  have bC := nM.below
                  have sM := nM.seg
                  clear nM
                  replace bb := bb.trans (bC.mono bb.size)
                  replace gA := gA.later bC
                  replace gD := gD.later bC
                  replace qR := qR.later bC
                  replace sE := sE.later bC
                  replace sT := sT.later bC
                  clear bC
                  go_wp2_with fail
                  refine hKK.out _ _ hHeld ?_
                  clear hHeld
                  intro hHeld
                  clear hKK KK
                  try simp only [Act.put, List.setIfInBounds_toArray, List.set_cons_zero, List.set_cons_succ]
                  have lM : ln (A * 10) ≤ ln A + 1 := ln_prod (ln_lt A) (show 10 < BB ^ 1 by rw [Nat.pow_one, BB_eq]; omega)
                  refine wpAnyH_ready (rs := [9]) (by kernel_rfl) (by simp) ?_
                  refine cons' rfl (fun KK hKK => ?_)
                  go_simp
                  refine (rAdd_any pM (some ⟨cE, 0, none⟩) (ln (A * 10)) (ln (A * 10)) (A * 10) 1 1 d _ (by omega) sM (by omega) sE).mono ?_
                  rintro e wq4 ⟨pS, rfl, nS⟩
                  have bC := nS.below
                  have sS := nS.seg
                  clear nS
                  replace bb := bb.trans (bC.mono bb.size)
                  replace gA := gA.later bC
                  replace gD := gD.later bC
                  replace qR := qR.later bC
                  replace sE := sE.later bC
                  replace sT := sT.later bC
                  replace sM := sM.later bC
                  clear bC
                  go_wp2_with fail
                  refine hKK.out _ _ hHeld ?_
                  clear hHeld
                  intro hHeld
                  clear hKK KK
                  try simp only [Act.put, List.setIfInBounds_toArray, List.set_cons_zero, List.set_cons_succ]
                  refine take' 10 (v := ?_) rfl (by kernel_rfl) (by kernel_rfl) (by kernel_rfl) (fun _ _ _ h => h) (Or.inl ⟨by rfl, ?_⟩) (by assumption) ?_
                  rotate_left
                  · intro w9 hSw
                    go_simp
                    first | done | with_reducible rfl
                  simp only [Act.put, List.setIfInBounds_toArray, List.set_cons_zero, List.set_cons_succ]
                  refine wpAnyH_done (by kernel_rfl) ?_ _
                  clear gA sT sE sM
                  try clear hHeld
                  have nU := single_new wq4 10 58 10 (by omega) rfl
                  have bA := nU.below
                  have sU := nU.seg
                  clear nU
                  replace bb := bb.trans (bA.mono bb.size)
                  replace gD := gD.later bA
                  replace qR := qR.later bA
                  replace sS := sS.later bA
                  clear bA
                  have HM := hide' (rMul_is pd (some ⟨wq4.heap.size, 0, none⟩) (ln D) (ln D) D 1 1 10 (D * 10) _ (by omega) gD sU rfl)
                  go_wp2_with fail
                  refine HM.out.mono ?_
                  clear HM
                  rintro e wz ⟨pE, rfl, nE⟩
                  have bC := nE.below
                  have sE := nE.seg
                  clear nE gD sU
                  replace bb := bb.trans (bC.mono bb.size)
                  replace qR := qR.later bC
                  replace sS := sS.later bC
                  clear bC
                  go_wp2
                  go_roundw
                  case rel => exact ⟨j + 1, pS, pE, A * 10 + d, D * 10, by omega, by go_num, rfl, rfl, pt_step HA.out HE.out (by rw [HVs.out]; omega), by rw [HD.out, Nat.pow_succ], sS, sE, bb, qR, fun m hm => by
                    by_cases e : m = j
                    · rw [e]; exact hv
                    · exact HG.out m (by omega)⟩
                  case measure => simp [intOf]; omega
                exact AllReadyH.nil
              · skip
                have hv' : ¬ (48 ≤ byt v j ∧ byt v j ≤ 57) := fun c => hv (dval10.2 c)
                rw [ej] at hv'
                by_cases g1 : ((u[j + 1]'hlt).toNat : Int) < 48
                · clear ej hv'
                  have v0 := qR.cell 0
                  have v1 := qR.cell 1
                  have v2 := qR.cell 2
                  simp only [List.getElem?_toArray, List.getElem?_cons_zero, List.getElem?_cons_succ] at v0 v1 v2
                  have fz := fun o => qR.frozen o
                  go_wp2
                  obtain ⟨c9, q9⟩ := qR.set3 (.bool false) (.slice none 0 0) (.slice none 0 0)
                  have z0 := q9.cell 0
                  have z1 := q9.cell 1
                  have z2 := q9.cell 2
                  simp only [List.getElem?_toArray, List.getElem?_cons_zero, List.getElem?_cons_succ] at z0 z1 z2
                  clear v0 v1 v2
                  refine bodyPost_ret (v := .tuple #[.agg #[.bool false, .slice none 0 0, .slice none 0 0], .int .i64 31]) (by rw [results_ct rfl]; go_simp) rfl ?_
                  exact ⟨rfl, bb.trans (c9.below (Nat.le_refl _))⟩
                · have g2 : (57 : Int) < ((u[j + 1]'hlt).toNat : Int) := by omega
                  have g3 : decide (((u[j + 1]'hlt).toNat : Int) < 48) = false := by rw [decide_eq_false_iff_not]; exact g1
                  clear ej hv' g1
                  have v0 := qR.cell 0
                  have v1 := qR.cell 1
                  have v2 := qR.cell 2
                  simp only [List.getElem?_toArray, List.getElem?_cons_zero, List.getElem?_cons_succ] at v0 v1 v2
                  have fz := fun o => qR.frozen o
                  go_wp2
                  obtain ⟨c9, q9⟩ := qR.set3 (.bool false) (.slice none 0 0) (.slice none 0 0)
                  have z0 := q9.cell 0
                  have z1 := q9.cell 1
                  have z2 := q9.cell 2
                  simp only [List.getElem?_toArray, List.getElem?_cons_zero, List.getElem?_cons_succ] at z0 z1 z2
                  clear v0 v1 v2
                  refine bodyPost_ret (v := .tuple #[.agg #[.bool false, .slice none 0 0, .slice none 0 0], .int .i64 31]) (by rw [results_ct rfl]; go_simp) rfl ?_
                  exact ⟨rfl, bb.trans (c9.below (Nat.le_refl _))⟩
            · skip
              exact absurd ⟨by rw [HVs.out]; omega, fun m hm => HG.out m (by rw [HVs.out] at hm; omega)⟩ HT.out
    · have hki : ¬ ((k : Int) < (t.size : Int)) := by omega
      have hno : k < t.size → ¬ dval (byt t k) < 10 := fun c => absurd c hlt
      obtain rfl : k = n := Lead.uniq ⟨hk, hj, hno⟩ hl
      exact absurd hn hlt

end Go.Proofs.YtjbeagbkjmaeeaaGreatDoor
