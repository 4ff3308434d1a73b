/-
  DeltaGreatest.
-/
import Derived.Test.YtnifelfecildmaaGreatDoorWV8
import Derived.Test.YtnifelfecildmaaGreatDoorWG6
import Derived.Test.YtnifelfecildmaaGreatDoorOpenG
import Derived.Test.YtnifelfecildmaaGreatDoorOpenD
import Derived.Test.YtnifelfecildmaaGreatDoorCards
import Derived.Test.YtnifelfecildmaaGreatDoorTie
import Derived.Deep.DeepHandedRow
import Derived.Lib.LaidTab
namespace Go.Proofs.YtnifelfecildmaaGreatDoor.deltaGreatest
open Go.ChangeShapes Go.WideShapes Go.ChangeAt Go.RowKit Go.Proofs.YtnifelfecildmaaGreatDoor
set_option linter.unusedVariables false
set_option linter.unusedSimpArgs false

/-- what the statement says -/
theorem must {k : Nat → GapV} {n : Nat} {M T : Rat} (hM : 0 < M) (hT : smallG (gl k n) + M = T) (h1 : ¬ 1 < T) (h : ∀ i, i < n → ¬ atR (k i).val.2 T < atR (k i).val.1 T) : False := by
  have hs : smallG (gl k n) < 1 := by grind
  obtain ⟨g, hg, hn, e⟩ := small_att hs
  obtain ⟨i, hi, rfl⟩ := gl_mem hg
  exact h i hi (breaks hn (by grind))
set_option maxHeartbeats 8000000 in
set_option maxRecDepth 100000 in
theorem walkM (a : Option Addr) (n cap : Nat) (k : Nat → GapV) (M : RatV) (w : World) (hA : GapsAt w a n k) (hok : ∀ i, i < n → (k i).ok w ∧ (k i).tiny) (hc : n ≤ cap) (hn : n ≤ 1048576) (hM : M.ok w) (hm : M.n ≤ 1048576 ∧ M.m ≤ 1048576) (hDg : Digits w) :
    Calls Tryz.prog 5 #[.slice a n cap, .agg #[.bool M.s, .slice M.a M.n M.c, .slice M.b M.m M.e]] w fun e w' => e = .returned (.bool true) ∧ Below w.heap.size w w' := by
  have G1 := hide' (fun w' (hb : Below w.heap.size w w') => gaps_is a n cap k w' (hA.later hb) (fun i hi => ⟨(hok i hi).1.on hb, (hok i hi).2⟩) hc hn)
  have G2 := hide' (fun w' a' k' (hA' : GapsAt w' a' n k') (h' : ∀ i, i < n → (k' i).ok w' ∧ (k' i).tiny ∧ (k' i).val = (k i).val) => show Calls Tryz.prog 7 #[.slice a' n n] w' (fun e w1 => ((∀ i, i < n → ¬ badG (k i).val) ∧ ∃ p q, e = .returned (.tuple #[.agg #[.bool (ng (smallG (gl k n)).num), .slice p (ln (am (smallG (gl k n)).num)) (ln (am (smallG (gl k n)).num)), .slice q (ln (smallG (gl k n)).den) (ln (smallG (gl k n)).den)], .int .i64 0]) ∧ Below w'.heap.size w' w1 ∧ (nR (smallG (gl k n)) p q).ok w1) ∨ ((∃ i, i < n ∧ badG (k i).val) ∧ e = .returned (.tuple #[.agg #[.bool false, .slice none 0 0, .slice none 0 0], .int .i64 51]) ∧ Below w'.heap.size w' w1)) by
    have h := Small_is a' n n k' w' hA' (fun i hi => ⟨(h' i hi).1, (h' i hi).2.1⟩) (Nat.le_refl _) hn
    rw [gl_congr n fun i hi => (h' i hi).2.2] at h
    refine h.mono ?_
    rintro e w1 (⟨h1, h2⟩ | ⟨⟨i, hi, h1⟩, h2⟩)
    · exact Or.inl ⟨fun i hi hb => h1 i hi (by rw [(h' i hi).2.2]; exact hb), h2⟩
    · exact Or.inr ⟨⟨i, hi, by rw [← (h' i hi).2.2]; exact h1⟩, h2⟩)
  have GL := hide' (fun w' (hb : Below w.heap.size w w') => lives_is w' (hDg.below hb))
  have sM : sz 1048577 M.val := szV hM (by omega) (by omega)
  have sS : sz 8388622 (smallG (gl k n)) := small_sz n hok
  have GS := hide' (fun w' (hb : Below w.heap.size w w') => vsignQ M w' (hM.on hb) _ rfl)
  have GA := hide' (fun w' p q (hb : Below w.heap.size w w') (h9 : (nR (smallG (gl k n)) p q).ok w') => vaddQ (nR (smallG (gl k n)) p q) M (smallG (gl k n) + M.val) w' h9 (hM.on hb) ⟨(nR_short sS).1, (nR_short sS).2, by omega, by omega⟩ (by rw [nR_val]) ((sz_addY sS sM).mono (by omega)))
  obtain ⟨T, hT⟩ : ∃ T, smallG (gl k n) + M.val = T := ⟨_, rfl⟩
  have sT : sz 20000000 T := by rw [← hT]; exact (sz_addY sS sM).mono (by omega)
  rw [hT] at GA
  have MU := hide' (fun (hM0 : 0 < M.val) (h1 : ¬ 1 < T) (h : ∀ i, i < n → ¬ atR (k i).val.2 T < atR (k i).val.1 T) => must (k := k) (n := n) hM0 hT h1 h)
  have GB := hide' (fun w' i (hi : i < n) p q (hb : Below w.heap.size w w') (h9 : (nR T p q).ok w') => vatQ (k i).lo (nR T p q) (atR (k i).val.1 T) w' ((hok i hi).1.1.on hb) h9 (hok i hi).2.1 ⟨Nat.le_trans sT.1 (by omega), Nat.le_trans sT.2 (by omega)⟩ (by rw [nR_val]; rfl) ((at_sz (hok i hi).1.1 (hok i hi).2.1 sT).mono (by omega)))
  have GH := hide' (fun w' i (hi : i < n) p q (hb : Below w.heap.size w w') (h9 : (nR T p q).ok w') => vatQ (k i).hi (nR T p q) (atR (k i).val.2 T) w' ((hok i hi).1.2.on hb) h9 (hok i hi).2.2 ⟨Nat.le_trans sT.1 (by omega), Nat.le_trans sT.2 (by omega)⟩ (by rw [nR_val]; rfl) ((at_sz (hok i hi).1.2 (hok i hi).2.2 sT).mono (by omega)))
  have GC := hide' (fun w' i (hi : i < n) p q p1 q1 (h9 : (nR (atR (k i).val.1 T) p q).ok w') (h8 : (nR (atR (k i).val.2 T) p1 q1).ok w') => show Calls Tryz.prog 15 #[.agg #[.bool (ng (atR (k i).val.1 T).num), .slice p (ln (am (atR (k i).val.1 T).num)) (ln (am (atR (k i).val.1 T).num)), .slice q (ln (atR (k i).val.1 T).den) (ln (atR (k i).val.1 T).den)], .agg #[.bool (ng (atR (k i).val.2 T).num), .slice p1 (ln (am (atR (k i).val.2 T).num)) (ln (am (atR (k i).val.2 T).num)), .slice q1 (ln (atR (k i).val.2 T).den) (ln (atR (k i).val.2 T).den)]] w' (fun e w1 => e = .returned (.int .i64 (sR (atR (k i).val.1 T - atR (k i).val.2 T))) ∧ Below w'.heap.size w' w1) from vcmpQ (nR (atR (k i).val.1 T) p q) (nR (atR (k i).val.2 T) p1 q1) w' h9 h8 ⟨Nat.le_trans (at_sz (hok i hi).1.1 (hok i hi).2.1 sT).1 (by omega), Nat.le_trans (at_sz (hok i hi).1.1 (hok i hi).2.1 sT).2 (by omega), Nat.le_trans (at_sz (hok i hi).1.2 (hok i hi).2.2 sT).1 (by omega), Nat.le_trans (at_sz (hok i hi).1.2 (hok i hi).2.2 sT).2 (by omega)⟩ _ (by rw [nR_val, nR_val]))
  have GO := hide' (fun w' p q p1 q1 (h9 : (nR T p q).ok w') (h8 : (nR 1 p1 q1).ok w') => show Calls Tryz.prog 15 #[.agg #[.bool (ng T.num), .slice p (ln (am T.num)) (ln (am T.num)), .slice q (ln T.den) (ln T.den)], .agg #[.bool (ng (1 : Rat).num), .slice p1 (ln (am (1 : Rat).num)) (ln (am (1 : Rat).num)), .slice q1 (ln (1 : Rat).den) (ln (1 : Rat).den)]] w' (fun e w1 => e = .returned (.int .i64 (sR (T - 1))) ∧ Below w'.heap.size w' w1) from vcmpQ (nR T p q) (nR 1 p1 q1) w' h9 h8 ⟨Nat.le_trans sT.1 (by omega), Nat.le_trans sT.2 (by omega), (nR_short one_sz).1, (nR_short one_sz).2⟩ _ (by rw [nR_val, nR_val]))
  have GW := hide' vwholeQ1
  have HA := hide' hA
  obtain ⟨o1, ho1⟩ : ∃ r : Rat, 1 = r := ⟨_, rfl⟩
  have hC1 := sR_le_one (r := T) _ rfl
  obtain ⟨C1, hC1e⟩ : ∃ C, sR (T - 1) = C := ⟨_, rfl⟩
  rw [hC1e] at hC1 GO
  rw [ho1] at GO GW
  clear hC1e ho1
  have hS9 := sR_pos (r := M.val)
  obtain ⟨C2, hC2e⟩ : ∃ C, sR M.val = C := ⟨_, rfl⟩
  rw [hC2e] at hS9 GS
  clear hC2e
  obtain ⟨S, hSe⟩ : ∃ S, smallG (gl k n) = S := ⟨_, rfl⟩
  rw [hSe] at G2 GA
  clear hSe hT sT sS sM hA hok hDg hM hm
  go_enter Tryz.func5, Tryz.ntmps5
  go_wp2_with fail
  obtain ⟨wA, hwA⟩ : ∃ wA, w.alloc (.cells #[.bool M.s, .slice M.a M.n M.c, .slice M.b M.m M.e] 28) = wA := ⟨_, rfl⟩
  have hB : Below w.heap.size w wA := by subst hwA; exact below_alloc _
  have m0 : wA.cell? ⟨w.heap.size, 0, none⟩ = some (.bool M.s) := by subst hwA; go_simp
  have m1 : wA.cell? ⟨w.heap.size, 1, none⟩ = some (.slice M.a M.n M.c) := by subst hwA; go_simp
  have m2 : wA.cell? ⟨w.heap.size, 2, none⟩ = some (.slice M.b M.m M.e) := by subst hwA; go_simp
  rw [hwA]
  clear hwA
  refine (G1.out _ hB).mono ?_
  rintro e w1 ⟨a', k', rfl, b1, hA1, hk1⟩
  replace m0 := below_cell b1 m0
  replace m1 := below_cell b1 m1
  replace m2 := below_cell b1 m2
  replace hB := hB.trans (b1.mono hB.size)
  clear b1
  go_wp2_with fail
  refine (G2.out _ a' k' hA1 hk1).mono ?_
  clear hA1 hk1 G1 G2
  rintro e w2 (⟨hgood, p, q, rfl, b2, hS⟩ | ⟨hbad, rfl, b2⟩)
  · skip
    replace m0 := below_cell b2 m0
    replace m1 := below_cell b2 m1
    replace m2 := below_cell b2 m2
    replace hB := hB.trans (b2.mono hB.size)
    clear b2
    obtain ⟨w3, hwC⟩ : ∃ wC, w2.alloc (.cells #[.bool (ng S.num), .slice p (ln (am S.num)) (ln (am S.num)), .slice q (ln S.den) (ln S.den)] 28) = wC := ⟨_, rfl⟩
    have bC : Below w2.heap.size w2 w3 := by subst hwC; exact below_alloc _
    have y0 : w3.cell? ⟨w2.heap.size, 0, none⟩ = some (.bool (ng S.num)) := by subst hwC; go_simp
    have y1 : w3.cell? ⟨w2.heap.size, 1, none⟩ = some (.slice p (ln (am S.num)) (ln (am S.num))) := by subst hwC; go_simp
    have y2 : w3.cell? ⟨w2.heap.size, 2, none⟩ = some (.slice q (ln S.den) (ln S.den)) := by subst hwC; go_simp
    replace m0 := below_cell bC m0
    replace m1 := below_cell bC m1
    replace m2 := below_cell bC m2
    replace hS := hS.on bC
    replace hB := hB.trans (bC.mono hB.size)
    clear bC
    go_wp2_with fail
    clear hwC
    refine (GL.out _ hB).mono ?_
    rintro e w4 ⟨rfl, b4⟩
    replace m0 := below_cell b4 m0
    replace m1 := below_cell b4 m1
    replace m2 := below_cell b4 m2
    replace y0 := below_cell b4 y0
    replace y1 := below_cell b4 y1
    replace y2 := below_cell b4 y2
    replace hS := hS.on b4
    replace hB := hB.trans (b4.mono hB.size)
    clear b4
    go_wp2_with fail
    refine (GS.out _ hB).mono ?_
    rintro e w5 ⟨rfl, b5⟩
    replace m0 := below_cell b5 m0
    replace m1 := below_cell b5 m1
    replace m2 := below_cell b5 m2
    replace y0 := below_cell b5 y0
    replace y1 := below_cell b5 y1
    replace y2 := below_cell b5 y2
    replace hS := hS.on b5
    replace hB := hB.trans (b5.mono hB.size)
    clear b5
    by_cases hp : 0 < M.val
    · have c2 : ¬ C2 ≤ 0 := fun h => hS9.1 h hp
      clear hS9
      go_wp2_with fail
      refine (GA.out _ p q hB hS).mono ?_
      rintro e w6 ⟨p6, q6, rfl, b6, hT⟩
      replace hB := hB.trans (b6.mono hB.size)
      clear b6
      obtain ⟨w7, hwC⟩ : ∃ wC, w6.alloc (.cells #[.bool (ng T.num), .slice p6 (ln (am T.num)) (ln (am T.num)), .slice q6 (ln T.den) (ln T.den)] 28) = wC := ⟨_, rfl⟩
      have bC : Below w6.heap.size w6 w7 := by subst hwC; exact below_alloc _
      have x0 : w7.cell? ⟨w6.heap.size, 0, none⟩ = some (.bool (ng T.num)) := by subst hwC; go_simp
      have x1 : w7.cell? ⟨w6.heap.size, 1, none⟩ = some (.slice p6 (ln (am T.num)) (ln (am T.num))) := by subst hwC; go_simp
      have x2 : w7.cell? ⟨w6.heap.size, 2, none⟩ = some (.slice q6 (ln T.den) (ln T.den)) := by subst hwC; go_simp
      replace hT := hT.on bC
      replace hB := hB.trans (bC.mono hB.size)
      clear bC
      go_wp2_with fail
      clear hwC m0 m1 m2 y0 y1 y2 hS GA GS GL
      obtain ⟨c7, hc7⟩ : ∃ c, w6.heap.size = c := ⟨_, rfl⟩
      rw [hc7] at x0 x1 x2 ⊢
      clear hc7
      have bD : Below w7.heap.size w7 w7.drew := (Below.refl _ _).drew
      have kx0 := below_cell bD x0
      have kx1 := below_cell bD x1
      have kx2 := below_cell bD x2
      replace hB := hB.trans (bD.mono hB.size)
      replace x0 := below_cell bD x0
      replace x1 := below_cell bD x1
      replace x2 := below_cell bD x2
      refine wp_region_held_drew (S := fun w' => w'.cell? ⟨c7, 0, none⟩ = some (.bool (ng T.num)) ∧ w'.cell? ⟨c7, 1, none⟩ = some (.slice p6 (ln (am T.num)) (ln (am T.num))) ∧ w'.cell? ⟨c7, 2, none⟩ = some (.slice q6 (ln T.den) (ln T.den))) (by kernel_rfl) ⟨kx0, kx1, kx2⟩ (fun hHeld => ?_)
      clear kx0 kx1 kx2
      generalize w7.drew = w8 at bD x0 x1 x2 hB hHeld ⊢
      replace hT := hT.on bD
      clear bD
      refine take' 0 (v := ?_) rfl (by kernel_rfl) (by kernel_rfl) (by kernel_rfl) (fun _ _ _ h => h) (Or.inl ⟨by rfl, ?_⟩) (by assumption) ?_
      rotate_left
      · intro w9 hSw
        go_simp
        first | done | with_reducible rfl
      simp only [Act.put, List.setIfInBounds_toArray, List.set_cons_zero, List.set_cons_succ]
      refine wpAnyH_ready (rs := [1]) (by kernel_rfl) (by simp) ?_
      refine cons' rfl (fun KK hKK => ?_)
      go_simp
      refine (GW.out _).mono ?_
      rintro e w9 ⟨p9, q9, rfl, b9, h9⟩
      replace hB := hB.trans (b9.mono hB.size)
      replace x0 := below_cell b9 x0
      replace x1 := below_cell b9 x1
      replace x2 := below_cell b9 x2
      replace hHeld := (⟨below_cell b9 hHeld.1, below_cell b9 hHeld.2.1, below_cell b9 hHeld.2.2⟩ : _ ∧ _ ∧ _)
      replace hT := hT.on b9
      clear b9
      go_wp2_with fail
      refine hKK.out _ _ hHeld ?_
      clear hHeld
      intro hHeld
      clear hKK KK
      try simp only [Act.put, List.setIfInBounds_toArray, List.set_cons_zero, List.set_cons_succ]
      refine wpAnyH_ready (rs := [2]) (by kernel_rfl) (by simp) ?_
      refine cons' rfl (fun KK hKK => ?_)
      go_simp
      refine (GO.out _ p6 q6 p9 q9 hT h9).mono ?_
      rintro e w10 ⟨rfl, b10⟩
      replace hB := hB.trans (b10.mono hB.size)
      replace x0 := below_cell b10 x0
      replace x1 := below_cell b10 x1
      replace x2 := below_cell b10 x2
      replace hHeld := (⟨below_cell b10 hHeld.1, below_cell b10 hHeld.2.1, below_cell b10 hHeld.2.2⟩ : _ ∧ _ ∧ _)
      replace hT := hT.on b10
      clear b10 h9
      go_wp2_with fail
      refine hKK.out _ _ hHeld ?_
      clear hHeld
      intro hHeld
      clear hKK KK
      try simp only [Act.put, List.setIfInBounds_toArray, List.set_cons_zero, List.set_cons_succ]
      refine take' 3 (v := ?_) rfl (by kernel_rfl) (by kernel_rfl) (by kernel_rfl) (fun _ _ _ h => h) (Or.inl ⟨by rfl, ?_⟩) (by assumption) ?_
      rotate_left
      · intro w9 hSw
        go_simp
        first | done | with_reducible rfl
      simp only [Act.put, List.setIfInBounds_toArray, List.set_cons_zero, List.set_cons_succ]
      refine wpAnyH_done (by kernel_rfl) ?_ _
      clear hHeld GW GO
      by_cases h1 : 1 < T
      · have c1 : 0 < C1 := hC1.2 h1
        go_wp2
        go_ret
        exact ⟨rfl, hB⟩
      · have c1 : ¬ 0 < C1 := fun h => h1 (hC1.1 h)
        go_wp2_with fail
        go_loopw [8] (fun vi wr => ∃ j : Nat, j ≤ n ∧ vi = .int .i64 j ∧ (∀ i, i < j → ¬ atR (k i).val.2 T < atR (k i).val.1 T) ∧ Below w10.heap.size w10 wr) (fun vi _ => n - (intOf vi).toNat)
        case atStart => exact ⟨0, Nat.zero_le _, rfl, fun i hi => absurd hi (by omega), Below.refl _ _⟩
        case round =>
          obtain ⟨j, hj, rfl, hnb, bL⟩ := hrel
          by_cases hlt : j < n
          · obtain ⟨bb, off, rfl, hb, hcell⟩ := HA.out (by omega)
            replace x0 := below_cell bL x0
            replace x1 := below_cell bL x1
            replace x2 := below_cell bL x2
            replace hT := hT.on bL
            replace hB := hB.trans (bL.mono hB.size)
            have bLk := bL
            have hcj := (hcell j hlt).later hB
            have HB := hide' (fun w' hb h9 => GB.out w' j hlt p6 q6 hb h9)
            have HH := hide' (fun w' hb h9 => GH.out w' j hlt p6 q6 hb h9)
            have HC := hide' (fun w' p q p1 q1 h9 h8 => GC.out w' j hlt p q p1 q1 h9 h8)
            obtain ⟨gk, hgk⟩ : ∃ gk, k j = gk := ⟨_, rfl⟩
            rw [hgk] at hcj HB HH HC
            obtain ⟨d0, d1, d2, d3, d4, d5, d6, d7, d8, d9, d10, d11⟩ := hcj
            rw [Nat.add_zero] at d0
            have j0 : (0 : Int) ≤ (j : Int) := by omega
            have j1 : (j : Int) < (n : Int) := by omega
            have hgt := sR_gt (r := atR gk.val.1 T) (t := atR gk.val.2 T) _ rfl
            obtain ⟨C3, hC3⟩ : ∃ C, sR (atR gk.val.1 T - atR gk.val.2 T) = C := ⟨_, rfl⟩
            rw [hC3] at hgt HC
            clear hC3
            obtain ⟨X, hX⟩ : ∃ X, atR gk.val.1 T = X := ⟨_, rfl⟩
            obtain ⟨Y, hY⟩ : ∃ Y, atR gk.val.2 T = Y := ⟨_, rfl⟩
            rw [hX] at hgt HB HC
            rw [hY] at hgt HH HC
            replace hX := hide' hX
            replace hY := hide' hY
            replace hgt := hide' hgt
            replace hnb := hide' hnb
            clear hcell GB GH GC HA bL
            go_wp2_with fail
            have bD : Below wr.heap.size wr wr.drew := (Below.refl _ _).drew
            have kd0 := below_cell bD d0
            have kd1 := below_cell bD d1
            have kd2 := below_cell bD d2
            have kd3 := below_cell bD d3
            have kd4 := below_cell bD d4
            have kd5 := below_cell bD d5
            have kd6 := below_cell bD d6
            have kd7 := below_cell bD d7
            have kd8 := below_cell bD d8
            have kd9 := below_cell bD d9
            have kd10 := below_cell bD d10
            have kd11 := below_cell bD d11
            have kx0 := below_cell bD x0
            have kx1 := below_cell bD x1
            have kx2 := below_cell bD x2
            replace hB := hB.trans (bD.mono hB.size)
            refine wp_region_held_drew (S := fun w' => w'.cell? ⟨bb, off + j * 12, none⟩ = some (.bool gk.lo.a.s) ∧ w'.cell? ⟨bb, off + j * 12 + 1, none⟩ = some (.slice gk.lo.a.a gk.lo.a.n gk.lo.a.c) ∧ w'.cell? ⟨bb, off + j * 12 + 2, none⟩ = some (.slice gk.lo.a.b gk.lo.a.m gk.lo.a.e) ∧ w'.cell? ⟨bb, off + j * 12 + 3, none⟩ = some (.bool gk.lo.b.s) ∧ w'.cell? ⟨bb, off + j * 12 + 4, none⟩ = some (.slice gk.lo.b.a gk.lo.b.n gk.lo.b.c) ∧ w'.cell? ⟨bb, off + j * 12 + 5, none⟩ = some (.slice gk.lo.b.b gk.lo.b.m gk.lo.b.e) ∧ w'.cell? ⟨bb, off + j * 12 + 6, none⟩ = some (.bool gk.hi.a.s) ∧ w'.cell? ⟨bb, off + j * 12 + 7, none⟩ = some (.slice gk.hi.a.a gk.hi.a.n gk.hi.a.c) ∧ w'.cell? ⟨bb, off + j * 12 + 8, none⟩ = some (.slice gk.hi.a.b gk.hi.a.m gk.hi.a.e) ∧ w'.cell? ⟨bb, off + j * 12 + 9, none⟩ = some (.bool gk.hi.b.s) ∧ w'.cell? ⟨bb, off + j * 12 + 10, none⟩ = some (.slice gk.hi.b.a gk.hi.b.n gk.hi.b.c) ∧ w'.cell? ⟨bb, off + j * 12 + 11, none⟩ = some (.slice gk.hi.b.b gk.hi.b.m gk.hi.b.e) ∧ w'.cell? ⟨c7, 0, none⟩ = some (.bool (ng T.num)) ∧ w'.cell? ⟨c7, 1, none⟩ = some (.slice p6 (ln (am T.num)) (ln (am T.num))) ∧ w'.cell? ⟨c7, 2, none⟩ = some (.slice q6 (ln T.den) (ln T.den))) (by kernel_rfl) ⟨kd0, kd1, kd2, kd3, kd4, kd5, kd6, kd7, kd8, kd9, kd10, kd11, kx0, kx1, kx2⟩ (fun hHeld => ?_)
            clear kd0 kd1 kd2 kd3 kd4 kd5 kd6 kd7 kd8 kd9 kd10 kd11 kx0 kx1 kx2
            generalize wr.drew = w21 at bD hB hHeld ⊢
            replace hT := hT.on bD
            have bR : Below wr.heap.size wr w21 := bD
            clear bD d0 d1 d2 d3 d4 d5 d6 d7 d8 d9 d10 d11
            refine take' 0 (v := ?_) rfl (by kernel_rfl) (by kernel_rfl) (by kernel_rfl) (fun _ _ _ h => h) (Or.inl ⟨by rfl, ?_⟩) (by assumption) ?_
            rotate_left
            · intro w9 hSw
              go_simp
              first | done | with_reducible rfl
            simp only [Act.put, List.setIfInBounds_toArray, List.set_cons_zero, List.set_cons_succ]
            refine take' 1 (v := ?_) rfl (by kernel_rfl) (by kernel_rfl) (by kernel_rfl) (fun _ _ _ h => h) (Or.inl ⟨by rfl, ?_⟩) (by assumption) ?_
            rotate_left
            · intro w9 hSw
              go_simp
              first | done | with_reducible rfl
            simp only [Act.put, List.setIfInBounds_toArray, List.set_cons_zero, List.set_cons_succ]
            refine take' 2 (v := ?_) rfl (by kernel_rfl) (by kernel_rfl) (by kernel_rfl) (fun _ _ _ h => h) (Or.inl ⟨by rfl, ?_⟩) (by assumption) ?_
            rotate_left
            · intro w9 hSw
              go_simp
              first | done | with_reducible rfl
            simp only [Act.put, List.setIfInBounds_toArray, List.set_cons_zero, List.set_cons_succ]
            refine take' 3 (v := ?_) rfl (by kernel_rfl) (by kernel_rfl) (by kernel_rfl) (fun _ _ _ h => h) (Or.inl ⟨by rfl, ?_⟩) (by assumption) ?_
            rotate_left
            · intro w9 hSw
              go_simp
              first | done | with_reducible rfl
            simp only [Act.put, List.setIfInBounds_toArray, List.set_cons_zero, List.set_cons_succ]
            refine take' 4 (v := ?_) rfl (by kernel_rfl) (by kernel_rfl) (by kernel_rfl) (fun _ _ _ h => h) (Or.inl ⟨by rfl, ?_⟩) (by assumption) ?_
            rotate_left
            · intro w9 hSw
              go_simp
              first | done | with_reducible rfl
            simp only [Act.put, List.setIfInBounds_toArray, List.set_cons_zero, List.set_cons_succ]
            refine take' 5 (v := ?_) rfl (by kernel_rfl) (by kernel_rfl) (by kernel_rfl) (fun _ _ _ h => h) (Or.inl ⟨by rfl, ?_⟩) (by assumption) ?_
            rotate_left
            · intro w9 hSw
              go_simp
              first | done | with_reducible rfl
            simp only [Act.put, List.setIfInBounds_toArray, List.set_cons_zero, List.set_cons_succ]
            refine take' 7 (v := ?_) rfl (by kernel_rfl) (by kernel_rfl) (by kernel_rfl) (fun _ _ _ h => h) (Or.inl ⟨by rfl, ?_⟩) (by assumption) ?_
            rotate_left
            · intro w9 hSw
              go_simp
              first | done | with_reducible rfl
            simp only [Act.put, List.setIfInBounds_toArray, List.set_cons_zero, List.set_cons_succ]
            refine take' 8 (v := ?_) rfl (by kernel_rfl) (by kernel_rfl) (by kernel_rfl) (fun _ _ _ h => h) (Or.inl ⟨by rfl, ?_⟩) (by assumption) ?_
            rotate_left
            · intro w9 hSw
              go_simp
              first | done | with_reducible rfl
            simp only [Act.put, List.setIfInBounds_toArray, List.set_cons_zero, List.set_cons_succ]
            refine take' 9 (v := ?_) rfl (by kernel_rfl) (by kernel_rfl) (by kernel_rfl) (fun _ _ _ h => h) (Or.inl ⟨by rfl, ?_⟩) (by assumption) ?_
            rotate_left
            · intro w9 hSw
              go_simp
              first | done | with_reducible rfl
            simp only [Act.put, List.setIfInBounds_toArray, List.set_cons_zero, List.set_cons_succ]
            refine take' 10 (v := ?_) rfl (by kernel_rfl) (by kernel_rfl) (by kernel_rfl) (fun _ _ _ h => h) (Or.inl ⟨by rfl, ?_⟩) (by assumption) ?_
            rotate_left
            · intro w9 hSw
              go_simp
              first | done | with_reducible rfl
            simp only [Act.put, List.setIfInBounds_toArray, List.set_cons_zero, List.set_cons_succ]
            refine take' 11 (v := ?_) rfl (by kernel_rfl) (by kernel_rfl) (by kernel_rfl) (fun _ _ _ h => h) (Or.inl ⟨by rfl, ?_⟩) (by assumption) ?_
            rotate_left
            · intro w9 hSw
              go_simp
              first | done | with_reducible rfl
            simp only [Act.put, List.setIfInBounds_toArray, List.set_cons_zero, List.set_cons_succ]
            refine take' 12 (v := ?_) rfl (by kernel_rfl) (by kernel_rfl) (by kernel_rfl) (fun _ _ _ h => h) (Or.inl ⟨by rfl, ?_⟩) (by assumption) ?_
            rotate_left
            · intro w9 hSw
              go_simp
              first | done | with_reducible rfl
            simp only [Act.put, List.setIfInBounds_toArray, List.set_cons_zero, List.set_cons_succ]
            refine wpAnyH_ready (rs := [6]) (by kernel_rfl) (by simp) ?_
            refine cons' rfl (fun KK hKK => ?_)
            go_simp
            refine (HB.out _ hB hT).mono ?_
            rintro e w22 ⟨p7, q7, rfl, b7, h7⟩
            replace hB := hB.trans (b7.mono hB.size)
            replace bR := bR.trans (b7.mono bR.size)
            replace hHeld := (⟨below_cell b7 hHeld.1, below_cell b7 hHeld.2.1, below_cell b7 hHeld.2.2.1, below_cell b7 hHeld.2.2.2.1, below_cell b7 hHeld.2.2.2.2.1, below_cell b7 hHeld.2.2.2.2.2.1, below_cell b7 hHeld.2.2.2.2.2.2.1, below_cell b7 hHeld.2.2.2.2.2.2.2.1, below_cell b7 hHeld.2.2.2.2.2.2.2.2.1, below_cell b7 hHeld.2.2.2.2.2.2.2.2.2.1, below_cell b7 hHeld.2.2.2.2.2.2.2.2.2.2.1, below_cell b7 hHeld.2.2.2.2.2.2.2.2.2.2.2.1, below_cell b7 hHeld.2.2.2.2.2.2.2.2.2.2.2.2.1, below_cell b7 hHeld.2.2.2.2.2.2.2.2.2.2.2.2.2.1, below_cell b7 hHeld.2.2.2.2.2.2.2.2.2.2.2.2.2.2⟩ : _ ∧ _ ∧ _ ∧ _ ∧ _ ∧ _ ∧ _ ∧ _ ∧ _ ∧ _ ∧ _ ∧ _ ∧ _ ∧ _ ∧ _)
            replace hT := hT.on b7
            clear b7
            go_wp2_with fail
            refine hKK.out _ _ hHeld ?_
            clear hHeld
            intro hHeld
            clear hKK KK
            try simp only [Act.put, List.setIfInBounds_toArray, List.set_cons_zero, List.set_cons_succ]
            refine wpAnyH_ready (rs := [13]) (by kernel_rfl) (by simp) ?_
            refine cons' rfl (fun KK hKK => ?_)
            go_simp
            refine (HH.out _ hB hT).mono ?_
            rintro e w23 ⟨p8, q8, rfl, b8, h8⟩
            replace hB := hB.trans (b8.mono hB.size)
            replace bR := bR.trans (b8.mono bR.size)
            replace hHeld := (⟨below_cell b8 hHeld.1, below_cell b8 hHeld.2.1, below_cell b8 hHeld.2.2.1, below_cell b8 hHeld.2.2.2.1, below_cell b8 hHeld.2.2.2.2.1, below_cell b8 hHeld.2.2.2.2.2.1, below_cell b8 hHeld.2.2.2.2.2.2.1, below_cell b8 hHeld.2.2.2.2.2.2.2.1, below_cell b8 hHeld.2.2.2.2.2.2.2.2.1, below_cell b8 hHeld.2.2.2.2.2.2.2.2.2.1, below_cell b8 hHeld.2.2.2.2.2.2.2.2.2.2.1, below_cell b8 hHeld.2.2.2.2.2.2.2.2.2.2.2.1, below_cell b8 hHeld.2.2.2.2.2.2.2.2.2.2.2.2.1, below_cell b8 hHeld.2.2.2.2.2.2.2.2.2.2.2.2.2.1, below_cell b8 hHeld.2.2.2.2.2.2.2.2.2.2.2.2.2.2⟩ : _ ∧ _ ∧ _ ∧ _ ∧ _ ∧ _ ∧ _ ∧ _ ∧ _ ∧ _ ∧ _ ∧ _ ∧ _ ∧ _ ∧ _)
            replace h7 := h7.on b8
            clear b8
            go_wp2_with fail
            refine hKK.out _ _ hHeld ?_
            clear hHeld
            intro hHeld
            clear hKK KK
            try simp only [Act.put, List.setIfInBounds_toArray, List.set_cons_zero, List.set_cons_succ]
            refine wpAnyH_ready (rs := [14]) (by kernel_rfl) (by simp) ?_
            refine cons' rfl (fun KK hKK => ?_)
            go_simp
            refine (HC.out _ p7 q7 p8 q8 h7 h8).mono ?_
            rintro e w24 ⟨rfl, b9⟩
            replace hB := hB.trans (b9.mono hB.size)
            replace bR := bR.trans (b9.mono bR.size)
            replace hHeld := (⟨below_cell b9 hHeld.1, below_cell b9 hHeld.2.1, below_cell b9 hHeld.2.2.1, below_cell b9 hHeld.2.2.2.1, below_cell b9 hHeld.2.2.2.2.1, below_cell b9 hHeld.2.2.2.2.2.1, below_cell b9 hHeld.2.2.2.2.2.2.1, below_cell b9 hHeld.2.2.2.2.2.2.2.1, below_cell b9 hHeld.2.2.2.2.2.2.2.2.1, below_cell b9 hHeld.2.2.2.2.2.2.2.2.2.1, below_cell b9 hHeld.2.2.2.2.2.2.2.2.2.2.1, below_cell b9 hHeld.2.2.2.2.2.2.2.2.2.2.2.1, below_cell b9 hHeld.2.2.2.2.2.2.2.2.2.2.2.2.1, below_cell b9 hHeld.2.2.2.2.2.2.2.2.2.2.2.2.2.1, below_cell b9 hHeld.2.2.2.2.2.2.2.2.2.2.2.2.2.2⟩ : _ ∧ _ ∧ _ ∧ _ ∧ _ ∧ _ ∧ _ ∧ _ ∧ _ ∧ _ ∧ _ ∧ _ ∧ _ ∧ _ ∧ _)
            clear b9 h7 h8
            go_wp2_with fail
            refine hKK.out _ _ hHeld ?_
            clear hHeld
            intro hHeld
            clear hKK KK
            try simp only [Act.put, List.setIfInBounds_toArray, List.set_cons_zero, List.set_cons_succ]
            refine take' 15 (v := ?_) rfl (by kernel_rfl) (by kernel_rfl) (by kernel_rfl) (fun _ _ _ h => h) (Or.inl ⟨by rfl, ?_⟩) (by assumption) ?_
            rotate_left
            · intro w9 hSw
              go_simp
              first | done | with_reducible rfl
            simp only [Act.put, List.setIfInBounds_toArray, List.set_cons_zero, List.set_cons_succ]
            refine wpAnyH_done (by kernel_rfl) ?_ _
            clear hHeld HB HH HC
            by_cases hbr : Y < X
            · have c3 : 0 < C3 := hgt.out.2 hbr
              go_wp2
              go_ret
              exact ⟨rfl, hB⟩
            · have c3 : ¬ 0 < C3 := fun h => hbr (hgt.out.1 h)
              have I1 := hide' (show ∀ i, i < j + 1 → ¬ atR (k i).val.2 T < atR (k i).val.1 T from fun i hi => by
                rcases Nat.lt_or_ge i j with h | h
                · exact hnb.out i h
                · obtain rfl : i = j := by omega
                  rw [hgk, hX.out, hY.out]; exact hbr)
              have I2 := hide' (bLk.trans (bR.mono bLk.size))
              go_wp2
              go_roundw
              case rel => exact ⟨j + 1, by omega, by go_num, I1.out, I2.out⟩
              case measure => simp [intOf]; omega
          · obtain rfl : j = n := by omega
            exact absurd (MU.out hp h1 hnb) not_false
    · have c2 : C2 ≤ 0 := hS9.2 hp
      go_wp2
      go_ret
      exact ⟨rfl, hB⟩
  · skip
    replace m0 := below_cell b2 m0
    replace m1 := below_cell b2 m1
    replace m2 := below_cell b2 m2
    replace hB := hB.trans (b2.mono hB.size)
    clear b2
    go_wp2_with fail
    refine (GL.out _ ?_).mono ?_
    · first | exact hB.alloc hB.size _ | exact below_set3 (hB.alloc hB.size _) hB.size
    rintro e w4 ⟨rfl, b4⟩
    have hB4 := (show Below w.heap.size w _ from (by first | exact hB.alloc hB.size _ | exact below_set3 (hB.alloc hB.size _) hB.size)).trans (b4.mono (by first | exact (hB.alloc hB.size _).size | exact (below_set3 (hB.alloc hB.size _) hB.size).size))
    replace hB4 := hide' hB4
    clear b4
    go_wp2
    go_ret
    exact ⟨rfl, hB4.out⟩
theorem walk (a : Option Addr) (n cap : Nat) (k : Nat → GapV) (s0 : Bool) (a0 : Option Addr) (n0 c0 X0 : Nat) (b0 : Option Addr) (m0 d0 Y0 : Nat) (w : World) (hA : GapsAt w a n k) (hok : ∀ i, i < n → (k i).ok w) (hc : n ≤ cap)
    (hc0 : n0 ≤ c0) (hm0 : n0 ≤ 1048576) (hS0 : Seg w a0 X0 n0) (hd0 : m0 ≤ d0) (hk0 : m0 ≤ 1048576) (hT0 : Seg w b0 Y0 m0) (hb : bulkG k n ≤ 1048576) (hDg : Digits w) :
    Calls Tryz.prog 5 #[.slice a n cap, .agg #[.bool s0, .slice a0 n0 c0, .slice b0 m0 d0]] w fun e w' => e = .returned (.bool true) ∧ Below w.heap.size w w' :=
  walkM a n cap k ⟨s0, a0, n0, c0, X0, b0, m0, d0, Y0⟩ w hA (fun i hi => ⟨hok i hi, bulkG_tiny hb hi⟩) hc (by have := bulkG_n (k := k) n; omega) ⟨hS0, hc0, by show n0 ≤ _; omega, hT0, hd0, by show m0 ≤ _; omega⟩ ⟨hm0, hk0⟩ hDg

theorem gTab : Tryz.prog.globalNamed "fulcrum/nat.digits" = some 3 := by kernel_rfl
theorem gTabType : (Tryz.prog.globals[3]?).map (·.type) = some 174 := by kernel_rfl
theorem cellsA : Tryz.prog.cellsOf 174 = 16 := by kernel_rfl
theorem cells8 : Tryz.prog.cellsOf 5 = 1 := by kernel_rfl
theorem table {W : World} (h : laidMetH Tryz.prog Rows.deltaGreatestUptoRow.laid W) : Lib.TabIs Tryz.prog W "fulcrum/nat.digits" .u8 [48, 49, 50, 51, 52, 53, 54, 55, 56, 57, 97, 98, 99, 100, 101, 102] :=
  Lib.tabIs_of_head (rest := [("unicode/utf8.acceptRanges", Rows.laid_unicode_utf8_acceptRanges), ("unicode/utf8.first", Rows.laid_unicode_utf8_first)]) gTab gTabType Tryz.underlying174 Tryz.underlying5 cells8 cellsA h
theorem digits_of {W : World} (h : laidMetH Tryz.prog Rows.deltaGreatestUptoRow.laid W) : Digits W :=
  ⟨(table h).cell gTab 0 (by decide), (table h).cell gTab 1 (by decide), (table h).cell gTab 2 (by decide), (table h).cell gTab 3 (by decide), (table h).cell gTab 4 (by decide)⟩

set_option maxRecDepth 100000 in
theorem contract (H : Type) (enc : TypeId × Value → H) (W : World) (base : Nat) (args : Array Value) (ds gs : List (DataW H)) (before : List MemPlace)
    (hval : ∀ (j : Nat) t v, Tryz.f5.params[j]? = some t → args[j]? = some v → Value.okWide Tryz.prog W .any base t v)
    (hW : DataW.Whole enc Tryz.prog Tryz.f5.params.toList Rows.deltaGreatestSpec.vars false W args.toList ds gs before)
    (hsz : (DataW.weightsEach Tryz.prog (Tryz.f5.params.toList ++ Rows.deltaGreatestSpec.plain.varTypes Tryz.prog) (ds ++ gs)).all (· ≤ reachBytes) = true) (hk : Rows.uptoSmall H (ds ++ gs) = true) (hL : laidMetH Tryz.prog Rows.deltaGreatestUptoRow.laid W) :
    Calls Tryz.prog 5 args W fun e W' => ∃ v, e = .returned v ∧ Rows.deltaGreatestSpec.post enc Tryz.prog Tryz.f5 false true false false W args v W' := by
  have hW' := hW
  obtain ⟨p, q, hA0, hV, rfl, hfz, hnd⟩ := hW
  have hA : DataW.TrodAll enc Tryz.prog W 0 (fun _ => true) true Tryz.f5.params.toList args.toList ds p := hA0
  rw [Tryz.params5] at hA hval hsz
  obtain ⟨v0, vs0, d0, ds0, p0, q0, hargs, rfl, rfl, h0, r0⟩ := trodAll_cons hA
  obtain ⟨v1, vs1, d1, ds1, p1, q1, rfl, rfl, rfl, h1, r1⟩ := trodAll_cons r0
  obtain ⟨rfl, rfl, rfl⟩ := trodAll_nil r1
  obtain rfl : args = #[v0, v1] := by cases args; simp_all
  obtain ⟨rfl, rfl⟩ := trodVars_none hV
  have lt0 : ∀ x ∈ p0, x.block < W.heap.size := by obtain ⟨m, hm⟩ := h0; exact DataW.trod_lt m _ _ _ hm
  obtain ⟨xa0, xl0, xc0, rfl⟩ := okWide_slice Tryz.underlying22 (hval 0 22 v0 rfl rfl)
  obtain ⟨fu0, hm0⟩ := id h0
  obtain ⟨fa0, fn0, fc0, ff0, hcs0, hF0, hfo0, hfc0, hfz0, hfu0⟩ := open_Gaps hm0 (sized_at 0 hsz rfl rfl)
  simp [Value.cells] at hcs0
  obtain ⟨rfl, rfl, rfl⟩ := hcs0
  have lt1 : ∀ x ∈ p1, x.block < W.heap.size := by obtain ⟨m, hm⟩ := h1; exact DataW.trod_lt m _ _ _ hm
  obtain ⟨rs1, ra1, rn1, rc1, rX1, rb1, rm1, re1, rY1, rfl, hS1, hc1, hb1, hT1, hd1, hk1, hu1, hv1⟩ := open_Rat (hval 1 28 v1 rfl rfl) h1 (sized_at 1 hsz rfl rfl)
  clear hA0
  have hbulk := of_decide_eq_true hk
  simp only [List.append_nil, Rows.uptoBulkAll] at hbulk
  replace hb1 : rn1 ≤ 1048576 := by omega
  replace hk1 : rm1 ≤ 1048576 := by omega
  simp only [List.append_nil] at hW'
  refine (walk xa0 xl0 xc0 ff0 rs1 ra1 rn1 rc1 rX1 rb1 rm1 re1 rY1 W hF0 hfo0 hfc0 hc1 hb1 hS1 hd1 hk1 hT1 (by omega) (digits_of hL)).mono fun e W' ⟨he, bel⟩ => ?_
  subst he
  exact ⟨_, rfl, _, _, _, [], _, [], hW', trodAll_mk1 (shut_bool Tryz.underlying4 _), (trodAll_cons_mk (Below.trod laidOut (by kernel_rfl) (of_decide_eq_true (by kernel_rfl)) h0 bel lt0) (trodAll_cons_mk (Below.trod laidOut (by kernel_rfl) (of_decide_eq_true (by kernel_rfl)) h1 bel lt1) trodAll_mk0)), rfl, bel.frame _, fun h => by cases h⟩

def setCells (cs : Array Value) : Obj → Obj
  | .cells _ t frozen => .cells cs t frozen
  | o => o
set_option maxRecDepth 100000 in
noncomputable def laidWorld (os : Os) : World :=
  { World.holding Tryz.prog os ⟨#[], #[], []⟩ with heap := ((((World.holding Tryz.prog os ⟨#[], #[], []⟩).heap.modify 3 (setCells #[.int .u8 48, .int .u8 49, .int .u8 50, .int .u8 51, .int .u8 52, .int .u8 53, .int .u8 54, .int .u8 55, .int .u8 56, .int .u8 57, .int .u8 97, .int .u8 98, .int .u8 99, .int .u8 100, .int .u8 101, .int .u8 102])).modify 2 (setCells #[.int .u8 128, .int .u8 191, .int .u8 160, .int .u8 191, .int .u8 128, .int .u8 159, .int .u8 144, .int .u8 191, .int .u8 128, .int .u8 143, .int .u8 0, .int .u8 0, .int .u8 0, .int .u8 0, .int .u8 0, .int .u8 0, .int .u8 0, .int .u8 0, .int .u8 0, .int .u8 0, .int .u8 0, .int .u8 0, .int .u8 0, .int .u8 0, .int .u8 0, .int .u8 0, .int .u8 0, .int .u8 0, .int .u8 0, .int .u8 0, .int .u8 0, .int .u8 0])).modify 1 (setCells #[.int .u8 240, .int .u8 240, .int .u8 240, .int .u8 240, .int .u8 240, .int .u8 240, .int .u8 240, .int .u8 240, .int .u8 240, .int .u8 240, .int .u8 240, .int .u8 240, .int .u8 240, .int .u8 240, .int .u8 240, .int .u8 240, .int .u8 240, .int .u8 240, .int .u8 240, .int .u8 240, .int .u8 240, .int .u8 240, .int .u8 240, .int .u8 240, .int .u8 240, .int .u8 240, .int .u8 240, .int .u8 240, .int .u8 240, .int .u8 240, .int .u8 240, .int .u8 240, .int .u8 240, .int .u8 240, .int .u8 240, .int .u8 240, .int .u8 240, .int .u8 240, .int .u8 240, .int .u8 240, .int .u8 240, .int .u8 240, .int .u8 240, .int .u8 240, .int .u8 240, .int .u8 240, .int .u8 240, .int .u8 240, .int .u8 240, .int .u8 240, .int .u8 240, .int .u8 240, .int .u8 240, .int .u8 240, .int .u8 240, .int .u8 240, .int .u8 240, .int .u8 240, .int .u8 240, .int .u8 240, .int .u8 240, .int .u8 240, .int .u8 240, .int .u8 240, .int .u8 240, .int .u8 240, .int .u8 240, .int .u8 240, .int .u8 240, .int .u8 240, .int .u8 240, .int .u8 240, .int .u8 240, .int .u8 240, .int .u8 240, .int .u8 240, .int .u8 240, .int .u8 240, .int .u8 240, .int .u8 240, .int .u8 240, .int .u8 240, .int .u8 240, .int .u8 240, .int .u8 240, .int .u8 240, .int .u8 240, .int .u8 240, .int .u8 240, .int .u8 240, .int .u8 240, .int .u8 240, .int .u8 240, .int .u8 240, .int .u8 240, .int .u8 240, .int .u8 240, .int .u8 240, .int .u8 240, .int .u8 240, .int .u8 240, .int .u8 240, .int .u8 240, .int .u8 240, .int .u8 240, .int .u8 240, .int .u8 240, .int .u8 240, .int .u8 240, .int .u8 240, .int .u8 240, .int .u8 240, .int .u8 240, .int .u8 240, .int .u8 240, .int .u8 240, .int .u8 240, .int .u8 240, .int .u8 240, .int .u8 240, .int .u8 240, .int .u8 240, .int .u8 240, .int .u8 240, .int .u8 240, .int .u8 240, .int .u8 240, .int .u8 240, .int .u8 241, .int .u8 241, .int .u8 241, .int .u8 241, .int .u8 241, .int .u8 241, .int .u8 241, .int .u8 241, .int .u8 241, .int .u8 241, .int .u8 241, .int .u8 241, .int .u8 241, .int .u8 241, .int .u8 241, .int .u8 241, .int .u8 241, .int .u8 241, .int .u8 241, .int .u8 241, .int .u8 241, .int .u8 241, .int .u8 241, .int .u8 241, .int .u8 241, .int .u8 241, .int .u8 241, .int .u8 241, .int .u8 241, .int .u8 241, .int .u8 241, .int .u8 241, .int .u8 241, .int .u8 241, .int .u8 241, .int .u8 241, .int .u8 241, .int .u8 241, .int .u8 241, .int .u8 241, .int .u8 241, .int .u8 241, .int .u8 241, .int .u8 241, .int .u8 241, .int .u8 241, .int .u8 241, .int .u8 241, .int .u8 241, .int .u8 241, .int .u8 241, .int .u8 241, .int .u8 241, .int .u8 241, .int .u8 241, .int .u8 241, .int .u8 241, .int .u8 241, .int .u8 241, .int .u8 241, .int .u8 241, .int .u8 241, .int .u8 241, .int .u8 241, .int .u8 241, .int .u8 241, .int .u8 2, .int .u8 2, .int .u8 2, .int .u8 2, .int .u8 2, .int .u8 2, .int .u8 2, .int .u8 2, .int .u8 2, .int .u8 2, .int .u8 2, .int .u8 2, .int .u8 2, .int .u8 2, .int .u8 2, .int .u8 2, .int .u8 2, .int .u8 2, .int .u8 2, .int .u8 2, .int .u8 2, .int .u8 2, .int .u8 2, .int .u8 2, .int .u8 2, .int .u8 2, .int .u8 2, .int .u8 2, .int .u8 2, .int .u8 2, .int .u8 19, .int .u8 3, .int .u8 3, .int .u8 3, .int .u8 3, .int .u8 3, .int .u8 3, .int .u8 3, .int .u8 3, .int .u8 3, .int .u8 3, .int .u8 3, .int .u8 3, .int .u8 35, .int .u8 3, .int .u8 3, .int .u8 52, .int .u8 4, .int .u8 4, .int .u8 4, .int .u8 68, .int .u8 241, .int .u8 241, .int .u8 241, .int .u8 241, .int .u8 241, .int .u8 241, .int .u8 241, .int .u8 241, .int .u8 241, .int .u8 241, .int .u8 241])) }
set_option maxRecDepth 100000 in
theorem laid_met (os : Os) : laidMet Tryz.prog Rows.deltaGreatestUptoRow.laid ((laidWorld os).forCall (fun _ _ => 0) ⟨#[], #[.slice none 0 0, .agg #[.bool false, .slice none 0 0, .slice none 0 0]], []⟩).memory :=
  laidMet_of_run' 8 (by kernel_rfl) (by kernel_rfl)
theorem reads (os : Os) {H : Type} (enc : TypeId × Value → H) : ∃ places, DataW.whole enc Tryz.prog ((laidWorld os).forCall (fun _ _ => 0) ⟨#[], #[.slice none 0 0, .agg #[.bool false, .slice none 0 0, .slice none 0 0]], []⟩).memory Tryz.f5.params.toList Rows.deltaGreatestSpec.vars false [Value.slice none 0 0, Value.agg #[.bool false, .slice none 0 0, .slice none 0 0]] 8 = some ([.nil, .agg [.agg [.lit (.bool false), .nil], .nil]], [], places) :=
  ⟨[], by kernel_rfl⟩

set_option maxRecDepth 100000 in
theorem liftedUpto (os : Os) (started : os.Started) (H : Type) (enc : TypeId × Value → H) (F : Stop.Interp) :
    ReturnsInHanded {} Tryz.checked os 5 .any ((Rows.OpenSpec.upto Rows.deltaGreatestSpec).preRow enc Tryz.prog Tryz.f5 Rows.deltaGreatestUptoRow.domain false Rows.deltaGreatestUptoRow.laid) (((Rows.OpenSpec.upto Rows.deltaGreatestSpec).at F).post enc Tryz.prog Tryz.f5 false true false false) := by
  obtain ⟨places, hx⟩ := reads os enc
  refine returnsInHanded_of_row (C := Tryz.checked) (s := Rows.OpenSpec.upto Rows.deltaGreatestSpec) own started (by kernel_rfl) Tryz.func5
    (witness_row_at (enc := enc) (C := Tryz.checked) false (laidWorld os) #[.slice none 0 0, .agg #[.bool false, .slice none 0 0, .slice none 0 0]] rfl (by kernel_rfl) (by kernel_rfl) (by kernel_rfl)
      (OpenSpec.preRow_of_cond 8 hx (by kernel_rfl) (fun k hk => by cases hk; kernel_rfl) (by kernel_rfl) (laid_met os))) ?_
  intro W base args ds gs before hval hW _ hk hsz hL _ _
  exact contract H enc W base args ds gs before hval hW hsz (hk _ rfl) hL

theorem saidUpto : Rows.DeltaGreatestUptoSaid :=
  OpenClaim.holds_of_cond 5 Tryz.f5 rfl rfl rfl rfl rfl rfl rfl ⟨rfl, rfl, rfl, rfl, rfl⟩ rfl rfl rfl rfl rfl (by kernel_rfl) Tryz.func5 (by kernel_rfl)
    (of_decide_eq_true (by kernel_rfl)) (by unfold Func.isWrapper; first | (rw [if_pos (by decide +kernel)]; kernel_rfl) | (rw [if_neg (by decide +kernel)]; exact ⟨rfl, rfl⟩))
    (fun os started H enc _ F => by rw [OpenClaim.pre_eq_preRow]; exact liftedUpto os started H enc F)

theorem plain (f : FuncId) (fn : Func) (hf : Tryz.pinned.checked.prog.funcNamed "fulcrum/fulcrumlaw05.DeltaGreatest" = some f) (hfn : Tryz.pinned.checked.prog.funcs[f]? = some fn) :
    false = Tryz.pinned.checked.prog.looks [] ∧ ∀ (j : Nat) t, fn.params[j]? = some t → Tryz.pinned.checked.prog.wantsStandIn t = false := by
  obtain rfl : f = 5 := Option.some.inj ((show Tryz.prog.funcNamed "fulcrum/fulcrumlaw05.DeltaGreatest" = some 5 by kernel_rfl).symm.trans hf) |>.symm
  obtain rfl : fn = Tryz.f5 := (Option.some.inj (Tryz.func5.symm.trans hfn)).symm
  refine ⟨by kernel_rfl, fun j t ht => ?_⟩
  rw [Tryz.params5] at ht
  have hm := Array.mem_of_getElem? ht
  simp only [List.mem_toArray, List.mem_cons, List.not_mem_nil, or_false] at hm
  rcases hm with rfl | rfl
  · exact (show Tryz.prog.wantsStandIn 22 = false by kernel_rfl)
  · exact (show Tryz.prog.wantsStandIn 28 = false by kernel_rfl)

theorem cardUpto : Rows.DeltaGreatestUptoCardSaid :=
  Claim7.holds_tied_plain_at .later [] _ _ _ _ saidUpto (fun _ h => by cases h) (by kernel_rfl) (fun _ h => by cases h) deltaGreatestUpto_row_tie rfl ⟨rfl, rfl⟩ (by kernel_rfl) rfl plain (by kernel_rfl)
end Go.Proofs.YtnifelfecildmaaGreatDoor.deltaGreatest
namespace Go.Proofs.YtnifelfecildmaaGreatDoor
theorem deltaGreatest_holds : Rows.DeltaGreatestUptoCardSaid := deltaGreatest.cardUpto
#print axioms deltaGreatest_holds
end Go.Proofs.YtnifelfecildmaaGreatDoor
