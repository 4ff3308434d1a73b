/-
  DeltaKeeps.
-/
import Derived.Test.YtnifelfecildmaaGreatDoorWV8
import Derived.Test.YtnifelfecildmaaGreatDoorWG8
import Derived.Test.YtnifelfecildmaaGreatDoorOpenG
import Derived.Test.YtnifelfecildmaaGreatDoorOpenD
import Derived.Test.YtnifelfecildmaaGreatDoorCards
import Derived.Test.YtnifelfecildmaaGreatDoorTie
import Derived.Deep.DeepHandedRow
import Derived.Lib.LaidTab
namespace Go.Proofs.YtnifelfecildmaaGreatDoor.deltaKeeps
open Go.ChangeShapes Go.WideShapes Go.ChangeAt Go.RowKit Go.Proofs.YtnifelfecildmaaGreatDoor
set_option linter.unusedVariables false
set_option linter.unusedSimpArgs false

set_option maxHeartbeats 8000000 in
set_option maxRecDepth 100000 in
theorem walkM (a : Option Addr) (n cap : Nat) (k : Nat → GapV) (x y : Nat) (w : World) (hA : GapsAt w a n k) (hok : ∀ i, i < n → (k i).ok w ∧ (k i).tiny) (hc : n ≤ cap) (hn : n ≤ 1048576) (hx : x < 4294967296) (hy : y < 4294967296) (hDg : Digits w) :
    Calls Tryz.prog 4 #[.slice a n cap, .int .u32 (x : Int), .int .u32 (y : Int)] w fun e w' => e = .returned (.bool true) ∧ Below w.heap.size w w' := by
  have G1 := hide' (fun w' (hb : Below w.heap.size w w') => gaps_is a n cap k w' (hA.later hb) (fun i hi => ⟨(hok i hi).1.on hb, (hok i hi).2⟩) hc hn)
  have G2 := hide' (fun w' a' k' (hA' : GapsAt w' a' n k') (h' : ∀ i, i < n → (k' i).ok w' ∧ (k' i).tiny ∧ (k' i).val = (k i).val) => show Calls Tryz.prog 7 #[.slice a' n n] w' (fun e w1 => ((∀ i, i < n → ¬ badG (k i).val) ∧ ∃ p q, e = .returned (.tuple #[.agg #[.bool (ng (smallG (gl k n)).num), .slice p (ln (am (smallG (gl k n)).num)) (ln (am (smallG (gl k n)).num)), .slice q (ln (smallG (gl k n)).den) (ln (smallG (gl k n)).den)], .int .i64 0]) ∧ Below w'.heap.size w' w1 ∧ (nR (smallG (gl k n)) p q).ok w1) ∨ ((∃ i, i < n ∧ badG (k i).val) ∧ e = .returned (.tuple #[.agg #[.bool false, .slice none 0 0, .slice none 0 0], .int .i64 51]) ∧ Below w'.heap.size w' w1)) by
    have h := Small_is a' n n k' w' hA' (fun i hi => ⟨(h' i hi).1, (h' i hi).2.1⟩) (Nat.le_refl _) hn
    rw [gl_congr n fun i hi => (h' i hi).2.2] at h
    refine h.mono ?_
    rintro e w1 (⟨h1, h2⟩ | ⟨⟨i, hi, h1⟩, h2⟩)
    · exact Or.inl ⟨fun i hi hb => h1 i hi (by rw [(h' i hi).2.2]; exact hb), h2⟩
    · exact Or.inr ⟨⟨i, hi, by rw [← (h' i hi).2.2]; exact h1⟩, h2⟩)
  have GL := hide' (fun w' (hb : Below w.heap.size w w') => lives_is w' (hDg.below hb))
  have sS : sz 8388622 (smallG (gl k n)) := small_sz n hok
  have GK := hide' (fun i (hi : i < n) w' (hb : Below w.heap.size w w') => vcmpDq (k i).lo (k i).hi w' ((hok i hi).1.1.on hb) ((hok i hi).1.2.on hb) (hok i hi).2.1.short (hok i hi).2.2.short)
  have hv : x % (y + 2) ≤ y + 1 := by have := Nat.mod_lt x (show 0 < y + 2 by omega); omega
  obtain ⟨qa, qb⟩ := part_in (x % (y + 2)) y hv
  obtain ⟨Q, hQ⟩ : ∃ Q, Rat.divInt ((x % (y + 2) : Nat) : Int) ((y + 1 : Nat) : Int) = Q := ⟨_, rfl⟩
  rw [hQ] at qa qb
  have sQ : sz 3 Q := by
    rw [← hQ]
    exact ln1 (low_of (by omega) rfl) (i := 2) (j := 2) (by rw [am_nat, BB_eq]; omega) (by rw [am_nat, BB_eq]; omega) (by omega) (by omega)
  have sT : sz 20000000 (smallG (gl k n) * Q) := (sz_mulY sS sQ).mono (by omega)
  have GP := hide' (fun w' p q (h9 : (nR (smallG (gl k n)) p q).ok w') => show Calls Tryz.prog 17 #[.agg #[.bool (ng (smallG (gl k n)).num), .slice p (ln (am (smallG (gl k n)).num)) (ln (am (smallG (gl k n)).num)), .slice q (ln (smallG (gl k n)).den) (ln (smallG (gl k n)).den)], .int .u32 (x : Int), .int .u32 (y : Int)] w' (QA w' (smallG (gl k n) * Q)) by have h := part_is (nR (smallG (gl k n)) p q) x y w' h9 ⟨Nat.le_trans sS.1 (by omega), Nat.le_trans sS.2 (by omega)⟩ hx hy; rw [nR_val, hQ] at h; exact h)
  have MU := hide' (fun (hg : ∀ i, i < n → ¬ badG (k i).val) i (hi : i < n) => show ¬ atR (k i).val.2 (smallG (gl k n) * Q) < atR (k i).val.1 (smallG (gl k n) * Q) by
    have hp := small_pos (l := gl k n) fun g hg9 => by obtain ⟨i, hi, rfl⟩ := gl_mem hg9; exact hg i hi
    obtain ⟨t1, t2⟩ := part_le hp qa qb
    have := keep (g := (k i).val) (hg i hi) t1 t2 (fun hn9 => small_le hn9 (gl_at k hi))
    exact Rat.not_lt.2 this)
  have SP := hide' (fun (hg : ∀ i, i < n → ¬ badG (k i).val) => show ¬ sR (smallG (gl k n)) ≤ 0 ∧ ¬ 0 < sR (smallG (gl k n) - 1) by
    have hp := small_pos (l := gl k n) fun g hg9 => by obtain ⟨i, hi, rfl⟩ := gl_mem hg9; exact hg i hi
    have h1 := small_le_one (gl k n)
    exact ⟨fun h => (sR_pos.1 h) hp, fun h => by have := (sR_le_one _ rfl).1 h; grind⟩)
  have GS := hide' (fun w' p q (h9 : (nR (smallG (gl k n)) p q).ok w') => show Calls Tryz.prog 14 #[.agg #[.bool (ng (smallG (gl k n)).num), .slice p (ln (am (smallG (gl k n)).num)) (ln (am (smallG (gl k n)).num)), .slice q (ln (smallG (gl k n)).den) (ln (smallG (gl k n)).den)]] w' (fun e w1 => e = .returned (.int .i64 (sR (smallG (gl k n)))) ∧ Below w'.heap.size w' w1) from vsignQ (nR (smallG (gl k n)) p q) w' h9 _ (by rw [nR_val]))
  have GO := hide' (fun w' p q p1 q1 (h9 : (nR (smallG (gl k n)) p q).ok w') (h8 : (nR 1 p1 q1).ok w') => show Calls Tryz.prog 15 #[.agg #[.bool (ng (smallG (gl k n)).num), .slice p (ln (am (smallG (gl k n)).num)) (ln (am (smallG (gl k n)).num)), .slice q (ln (smallG (gl k n)).den) (ln (smallG (gl k n)).den)], .agg #[.bool (ng (1 : Rat).num), .slice p1 (ln (am (1 : Rat).num)) (ln (am (1 : Rat).num)), .slice q1 (ln (1 : Rat).den) (ln (1 : Rat).den)]] w' (fun e w1 => e = .returned (.int .i64 (sR (smallG (gl k n) - 1))) ∧ Below w'.heap.size w' w1) from vcmpQ (nR (smallG (gl k n)) p q) (nR 1 p1 q1) w' h9 h8 ⟨(nR_short sS).1, (nR_short sS).2, (nR_short one_sz).1, (nR_short one_sz).2⟩ _ (by rw [nR_val, nR_val]))
  have GW := hide' vwholeQ1
  have HA := hide' hA
  obtain ⟨S, hSe⟩ : ∃ S, smallG (gl k n) = S := ⟨_, rfl⟩
  rw [hSe] at G2 GP MU SP GS GO sT sS
  obtain ⟨C1, hC1⟩ : ∃ C, sR S = C := ⟨_, rfl⟩
  obtain ⟨C2, hC2⟩ : ∃ C, sR (S - 1) = C := ⟨_, rfl⟩
  rw [hC1] at GS SP
  rw [hC2] at GO SP
  obtain ⟨o1, ho1⟩ : ∃ r : Rat, 1 = r := ⟨_, rfl⟩
  rw [ho1] at GO GW
  clear ho1 hC1 hC2
  obtain ⟨T, hT⟩ : ∃ T, S * Q = T := ⟨_, rfl⟩
  rw [hT] at GP MU sT
  have GB := hide' (fun w' i (hi : i < n) p q (hb : Below w.heap.size w w') (h9 : (nR T p q).ok w') => vatQ (k i).lo (nR T p q) (atR (k i).val.1 T) w' ((hok i hi).1.1.on hb) h9 (hok i hi).2.1 ⟨Nat.le_trans sT.1 (by omega), Nat.le_trans sT.2 (by omega)⟩ (by rw [nR_val]; rfl) ((at_sz (hok i hi).1.1 (hok i hi).2.1 sT).mono (by omega)))
  have GH := hide' (fun w' i (hi : i < n) p q (hb : Below w.heap.size w w') (h9 : (nR T p q).ok w') => vatQ (k i).hi (nR T p q) (atR (k i).val.2 T) w' ((hok i hi).1.2.on hb) h9 (hok i hi).2.2 ⟨Nat.le_trans sT.1 (by omega), Nat.le_trans sT.2 (by omega)⟩ (by rw [nR_val]; rfl) ((at_sz (hok i hi).1.2 (hok i hi).2.2 sT).mono (by omega)))
  have GC := hide' (fun w' i (hi : i < n) p q p1 q1 (h9 : (nR (atR (k i).val.1 T) p q).ok w') (h8 : (nR (atR (k i).val.2 T) p1 q1).ok w') => show Calls Tryz.prog 15 #[.agg #[.bool (ng (atR (k i).val.1 T).num), .slice p (ln (am (atR (k i).val.1 T).num)) (ln (am (atR (k i).val.1 T).num)), .slice q (ln (atR (k i).val.1 T).den) (ln (atR (k i).val.1 T).den)], .agg #[.bool (ng (atR (k i).val.2 T).num), .slice p1 (ln (am (atR (k i).val.2 T).num)) (ln (am (atR (k i).val.2 T).num)), .slice q1 (ln (atR (k i).val.2 T).den) (ln (atR (k i).val.2 T).den)]] w' (fun e w1 => e = .returned (.int .i64 (sR (atR (k i).val.1 T - atR (k i).val.2 T))) ∧ Below w'.heap.size w' w1) from vcmpQ (nR (atR (k i).val.1 T) p q) (nR (atR (k i).val.2 T) p1 q1) w' h9 h8 ⟨Nat.le_trans (at_sz (hok i hi).1.1 (hok i hi).2.1 sT).1 (by omega), Nat.le_trans (at_sz (hok i hi).1.1 (hok i hi).2.1 sT).2 (by omega), Nat.le_trans (at_sz (hok i hi).1.2 (hok i hi).2.2 sT).1 (by omega), Nat.le_trans (at_sz (hok i hi).1.2 (hok i hi).2.2 sT).2 (by omega)⟩ _ (by rw [nR_val, nR_val]))
  clear hT sT sS sQ hQ qa qb hv hSe hA hok hDg hx hy
  go_enter Tryz.func4, Tryz.ntmps4
  go_wp2_with fail
  have hB : Below w.heap.size w w := Below.refl _ _
  refine (G1.out _ hB).mono ?_
  rintro e w1 ⟨a', k', rfl, b1, hA1, hk1⟩
  replace hB := hB.trans (b1.mono hB.size)
  clear b1
  go_wp2_with fail
  refine (G2.out _ a' k' hA1 hk1).mono ?_
  clear hA1 hk1 G1 G2
  rintro e w2 (⟨hgood, p, q, rfl, b2, hS⟩ | ⟨hbad, rfl, b2⟩)
  · skip
    replace hB := hB.trans (b2.mono hB.size)
    clear b2
    obtain ⟨w3, hwC⟩ : ∃ wC, w2.alloc (.cells #[.bool (ng S.num), .slice p (ln (am S.num)) (ln (am S.num)), .slice q (ln S.den) (ln S.den)] 28) = wC := ⟨_, rfl⟩
    have bC : Below w2.heap.size w2 w3 := by subst hwC; exact below_alloc _
    have y0 : w3.cell? ⟨w2.heap.size, 0, none⟩ = some (.bool (ng S.num)) := by subst hwC; go_simp
    have y1 : w3.cell? ⟨w2.heap.size, 1, none⟩ = some (.slice p (ln (am S.num)) (ln (am S.num))) := by subst hwC; go_simp
    have y2 : w3.cell? ⟨w2.heap.size, 2, none⟩ = some (.slice q (ln S.den) (ln S.den)) := by subst hwC; go_simp
    replace hS := hS.on bC
    replace hB := hB.trans (bC.mono hB.size)
    clear bC
    go_wp2_with fail
    clear hwC
    obtain ⟨c7, hc7⟩ : ∃ c, w2.heap.size = c := ⟨_, rfl⟩
    rw [hc7] at y0 y1 y2 ⊢
    clear hc7
    refine (GL.out _ hB).mono ?_
    rintro e w4 ⟨rfl, b4⟩
    replace y0 := below_cell b4 y0
    replace y1 := below_cell b4 y1
    replace y2 := below_cell b4 y2
    replace hS := hS.on b4
    replace hB := hB.trans (b4.mono hB.size)
    clear b4
    go_wp2_with fail
    go_loopw [9] (fun vi wr => ∃ j : Nat, j ≤ n ∧ vi = .int .i64 j ∧ (∀ i, i < j → ¬ badG (k i).val) ∧ Below w4.heap.size w4 wr) (fun vi _ => n - (intOf vi).toNat)
    case atStart => exact ⟨0, Nat.zero_le _, rfl, fun i hi => absurd hi (by omega), Below.refl _ _⟩
    case round =>
      obtain ⟨j, hj, rfl, hnb, bL⟩ := hrel
      replace hB := hB.trans (bL.mono hB.size)
      by_cases hlt : j < n
      · obtain ⟨bb, off, rfl, hb, hcell⟩ := HA.out (by omega)
        have hcj := (hcell j hlt).later hB
        have HK := hide' (fun w' hb => GK.out j hlt w' hb)
        obtain ⟨gk, hgk⟩ : ∃ gk, k j = gk := ⟨_, rfl⟩
        rw [hgk] at hcj HK
        obtain ⟨d0, d1, d2, d3, d4, d5, d6, d7, d8, d9, d10, d11⟩ := hcj
        rw [Nat.add_zero] at d0
        have j0 : (0 : Int) ≤ (j : Int) := by omega
        have j1 : (j : Int) < (n : Int) := by omega
        have hbc := bad_cmp gk
        obtain ⟨C, hC⟩ : ∃ C, cmpD gk.lo.val gk.hi.val = C := ⟨_, rfl⟩
        rw [hC] at HK hbc
        replace hbc := hide' hbc
        replace hnb := hide' hnb
        clear hC hcell HA GK
        have bR : Below wr.heap.size wr wr := Below.refl _ _
        go_wp2_with fail
        have bD : Below wr.heap.size wr wr.drew := (Below.refl _ _).drew
        have kd0 := below_cell bD d0
        have kd1 := below_cell bD d1
        have kd2 := below_cell bD d2
        have kd3 := below_cell bD d3
        have kd4 := below_cell bD d4
        have kd5 := below_cell bD d5
        have kd6 := below_cell bD d6
        have kd7 := below_cell bD d7
        have kd8 := below_cell bD d8
        have kd9 := below_cell bD d9
        have kd10 := below_cell bD d10
        have kd11 := below_cell bD d11
        replace hB := hB.trans (bD.mono hB.size)
        replace bR := bR.trans (bD.mono bR.size)
        refine wp_region_held_drew (S := fun w' => w'.cell? ⟨bb, off + j * 12, none⟩ = some (.bool gk.lo.a.s) ∧ w'.cell? ⟨bb, off + j * 12 + 1, none⟩ = some (.slice gk.lo.a.a gk.lo.a.n gk.lo.a.c) ∧ w'.cell? ⟨bb, off + j * 12 + 2, none⟩ = some (.slice gk.lo.a.b gk.lo.a.m gk.lo.a.e) ∧ w'.cell? ⟨bb, off + j * 12 + 3, none⟩ = some (.bool gk.lo.b.s) ∧ w'.cell? ⟨bb, off + j * 12 + 4, none⟩ = some (.slice gk.lo.b.a gk.lo.b.n gk.lo.b.c) ∧ w'.cell? ⟨bb, off + j * 12 + 5, none⟩ = some (.slice gk.lo.b.b gk.lo.b.m gk.lo.b.e) ∧ w'.cell? ⟨bb, off + j * 12 + 6, none⟩ = some (.bool gk.hi.a.s) ∧ w'.cell? ⟨bb, off + j * 12 + 7, none⟩ = some (.slice gk.hi.a.a gk.hi.a.n gk.hi.a.c) ∧ w'.cell? ⟨bb, off + j * 12 + 8, none⟩ = some (.slice gk.hi.a.b gk.hi.a.m gk.hi.a.e) ∧ w'.cell? ⟨bb, off + j * 12 + 9, none⟩ = some (.bool gk.hi.b.s) ∧ w'.cell? ⟨bb, off + j * 12 + 10, none⟩ = some (.slice gk.hi.b.a gk.hi.b.n gk.hi.b.c) ∧ w'.cell? ⟨bb, off + j * 12 + 11, none⟩ = some (.slice gk.hi.b.b gk.hi.b.m gk.hi.b.e)) (by kernel_rfl) ⟨kd0, kd1, kd2, kd3, kd4, kd5, kd6, kd7, kd8, kd9, kd10, kd11⟩ (fun hHeld => ?_)
        clear kd0 kd1 kd2 kd3 kd4 kd5 kd6 kd7 kd8 kd9 kd10 kd11
        generalize wr.drew = w11 at bD hB bR hHeld ⊢
        clear bD d0 d1 d2 d3 d4 d5 d6 d7 d8 d9 d10 d11
        refine take' 0 (v := ?_) rfl (by kernel_rfl) (by kernel_rfl) (by kernel_rfl) (fun _ _ _ h => h) (Or.inl ⟨by rfl, ?_⟩) (by assumption) ?_
        rotate_left
        · intro w9 hSw
          go_simp
          first | done | with_reducible rfl
        simp only [Act.put, List.setIfInBounds_toArray, List.set_cons_zero, List.set_cons_succ]
        refine take' 1 (v := ?_) rfl (by kernel_rfl) (by kernel_rfl) (by kernel_rfl) (fun _ _ _ h => h) (Or.inl ⟨by rfl, ?_⟩) (by assumption) ?_
        rotate_left
        · intro w9 hSw
          go_simp
          first | done | with_reducible rfl
        simp only [Act.put, List.setIfInBounds_toArray, List.set_cons_zero, List.set_cons_succ]
        refine take' 2 (v := ?_) rfl (by kernel_rfl) (by kernel_rfl) (by kernel_rfl) (fun _ _ _ h => h) (Or.inl ⟨by rfl, ?_⟩) (by assumption) ?_
        rotate_left
        · intro w9 hSw
          go_simp
          first | done | with_reducible rfl
        simp only [Act.put, List.setIfInBounds_toArray, List.set_cons_zero, List.set_cons_succ]
        refine take' 3 (v := ?_) rfl (by kernel_rfl) (by kernel_rfl) (by kernel_rfl) (fun _ _ _ h => h) (Or.inl ⟨by rfl, ?_⟩) (by assumption) ?_
        rotate_left
        · intro w9 hSw
          go_simp
          first | done | with_reducible rfl
        simp only [Act.put, List.setIfInBounds_toArray, List.set_cons_zero, List.set_cons_succ]
        refine take' 4 (v := ?_) rfl (by kernel_rfl) (by kernel_rfl) (by kernel_rfl) (fun _ _ _ h => h) (Or.inl ⟨by rfl, ?_⟩) (by assumption) ?_
        rotate_left
        · intro w9 hSw
          go_simp
          first | done | with_reducible rfl
        simp only [Act.put, List.setIfInBounds_toArray, List.set_cons_zero, List.set_cons_succ]
        refine take' 5 (v := ?_) rfl (by kernel_rfl) (by kernel_rfl) (by kernel_rfl) (fun _ _ _ h => h) (Or.inl ⟨by rfl, ?_⟩) (by assumption) ?_
        rotate_left
        · intro w9 hSw
          go_simp
          first | done | with_reducible rfl
        simp only [Act.put, List.setIfInBounds_toArray, List.set_cons_zero, List.set_cons_succ]
        refine take' 6 (v := ?_) rfl (by kernel_rfl) (by kernel_rfl) (by kernel_rfl) (fun _ _ _ h => h) (Or.inl ⟨by rfl, ?_⟩) (by assumption) ?_
        rotate_left
        · intro w9 hSw
          go_simp
          first | done | with_reducible rfl
        simp only [Act.put, List.setIfInBounds_toArray, List.set_cons_zero, List.set_cons_succ]
        refine take' 7 (v := ?_) rfl (by kernel_rfl) (by kernel_rfl) (by kernel_rfl) (fun _ _ _ h => h) (Or.inl ⟨by rfl, ?_⟩) (by assumption) ?_
        rotate_left
        · intro w9 hSw
          go_simp
          first | done | with_reducible rfl
        simp only [Act.put, List.setIfInBounds_toArray, List.set_cons_zero, List.set_cons_succ]
        refine take' 8 (v := ?_) rfl (by kernel_rfl) (by kernel_rfl) (by kernel_rfl) (fun _ _ _ h => h) (Or.inl ⟨by rfl, ?_⟩) (by assumption) ?_
        rotate_left
        · intro w9 hSw
          go_simp
          first | done | with_reducible rfl
        simp only [Act.put, List.setIfInBounds_toArray, List.set_cons_zero, List.set_cons_succ]
        refine take' 9 (v := ?_) rfl (by kernel_rfl) (by kernel_rfl) (by kernel_rfl) (fun _ _ _ h => h) (Or.inl ⟨by rfl, ?_⟩) (by assumption) ?_
        rotate_left
        · intro w9 hSw
          go_simp
          first | done | with_reducible rfl
        simp only [Act.put, List.setIfInBounds_toArray, List.set_cons_zero, List.set_cons_succ]
        refine wpAnyH_ready (rs := [10]) (by kernel_rfl) (by simp) ?_
        refine cons' rfl (fun KK hKK => ?_)
        go_simp
        refine (HK.out _ hB).mono ?_
        rintro e w12 ⟨rfl, b5⟩
        have bC := b5
        replace hB := hB.trans (bC.mono hB.size)
        replace bR := bR.trans (bC.mono bR.size)
        replace hHeld := (⟨below_cell bC hHeld.1, below_cell bC hHeld.2.1, below_cell bC hHeld.2.2.1, below_cell bC hHeld.2.2.2.1, below_cell bC hHeld.2.2.2.2.1, below_cell bC hHeld.2.2.2.2.2.1, below_cell bC hHeld.2.2.2.2.2.2.1, below_cell bC hHeld.2.2.2.2.2.2.2.1, below_cell bC hHeld.2.2.2.2.2.2.2.2.1, below_cell bC hHeld.2.2.2.2.2.2.2.2.2.1, below_cell bC hHeld.2.2.2.2.2.2.2.2.2.2.1, below_cell bC hHeld.2.2.2.2.2.2.2.2.2.2.2⟩ : _ ∧ _ ∧ _ ∧ _ ∧ _ ∧ _ ∧ _ ∧ _ ∧ _ ∧ _ ∧ _ ∧ _)
        clear bC
        go_wp2_with fail
        clear b5
        refine hKK.out _ _ hHeld ?_
        clear hHeld
        intro hHeld
        clear hKK KK
        try simp only [Act.put, List.setIfInBounds_toArray, List.set_cons_zero, List.set_cons_succ]
        refine take' 11 (v := ?_) rfl (by kernel_rfl) (by kernel_rfl) (by kernel_rfl) (fun _ _ _ h => h) (Or.inl ⟨by rfl, ?_⟩) (by assumption) ?_
        rotate_left
        · intro w9 hSw
          go_simp
          first | done | with_reducible rfl
        simp only [Act.put, List.setIfInBounds_toArray, List.set_cons_zero, List.set_cons_succ]
        refine wpAnyH_done (by kernel_rfl) ?_ _
        clear hHeld HK
        have hbd : ¬ badG gk.val := by rw [← hgk]; exact hgood j hlt
        have c1 : ¬ 0 < C := fun h => hbd (hbc.out.1 h)
        have I1 := hide' (show (∀ i, i < j + 1 → ¬ badG (k i).val) ∧ Below w4.heap.size w4 w12 from ⟨fun i hi => by
          rcases Nat.lt_or_ge i j with h | h
          · exact hnb.out i h
          · obtain rfl : i = j := by omega
            rw [hgk]; exact hbd, bL.trans (bR.mono bL.size)⟩)
        clear hnb bL bR hB
        go_wp2
        go_roundw
        case rel => exact ⟨j + 1, by omega, by go_num, I1.out⟩
        case measure => simp [intOf]; omega
      · obtain rfl : j = n := by omega
        have i1 : ¬ (j : Int) < (j : Int) := by omega
        replace y0 := below_cell bL y0
        replace y1 := below_cell bL y1
        replace y2 := below_cell bL y2
        replace hS := hS.on bL
        clear bL hnb
        obtain ⟨s1, s2⟩ := SP.out hgood
        have s3 : (C1 ≤ 0) = False := eq_false (by omega)
        have s4 : (0 < C2) = False := eq_false (by omega)
        clear s1 s2
        have mu := MU.out hgood
        replace mu := hide' mu
        obtain ⟨wD, hwD⟩ : ∃ x, x = wr := ⟨wr, rfl⟩
        subst hwD
        go_wp2_with fail
        have bD : Below wD.heap.size wD wD.drew := (Below.refl _ _).drew
        have ky0 := below_cell bD y0
        have ky1 := below_cell bD y1
        have ky2 := below_cell bD y2
        replace hB := hB.trans (bD.mono hB.size)
        refine wp_region_held_drew (S := fun w' => w'.cell? ⟨c7, 0, none⟩ = some (.bool (ng S.num)) ∧ w'.cell? ⟨c7, 1, none⟩ = some (.slice p (ln (am S.num)) (ln (am S.num))) ∧ w'.cell? ⟨c7, 2, none⟩ = some (.slice q (ln S.den) (ln S.den))) (by kernel_rfl) ⟨ky0, ky1, ky2⟩ (fun hHeld => ?_)
        clear ky0 ky1 ky2
        generalize wD.drew = w21 at bD hB hHeld ⊢
        replace hS := hS.on bD
        clear bD y0 y1 y2
        refine take' 0 (v := ?_) rfl (by kernel_rfl) (by kernel_rfl) (by kernel_rfl) (fun _ _ _ h => h) (Or.inl ⟨by rfl, ?_⟩) (by assumption) ?_
        rotate_left
        · intro w9 hSw
          go_simp
          first | done | with_reducible rfl
        simp only [Act.put, List.setIfInBounds_toArray, List.set_cons_zero, List.set_cons_succ]
        refine take' 1 (v := ?_) rfl (by kernel_rfl) (by kernel_rfl) (by kernel_rfl) (fun _ _ _ h => h) (Or.inl ⟨by rfl, ?_⟩) (by assumption) ?_
        rotate_left
        · intro w9 hSw
          go_simp
          first | done | with_reducible rfl
        simp only [Act.put, List.setIfInBounds_toArray, List.set_cons_zero, List.set_cons_succ]
        refine take' 2 (v := ?_) rfl (by kernel_rfl) (by kernel_rfl) (by kernel_rfl) (fun _ _ _ h => h) (Or.inl ⟨by rfl, ?_⟩) (by assumption) ?_
        rotate_left
        · intro w9 hSw
          go_simp
          first | done | with_reducible rfl
        simp only [Act.put, List.setIfInBounds_toArray, List.set_cons_zero, List.set_cons_succ]
        refine take' 3 (v := ?_) rfl (by kernel_rfl) (by kernel_rfl) (by kernel_rfl) (fun _ _ _ h => h) (Or.inl ⟨by rfl, ?_⟩) (by assumption) ?_
        rotate_left
        · intro w9 hSw
          go_simp
          first | done | with_reducible rfl
        simp only [Act.put, List.setIfInBounds_toArray, List.set_cons_zero, List.set_cons_succ]
        refine wpAnyH_ready (rs := [4]) (by kernel_rfl) (by simp) ?_
        refine cons' rfl (fun KK hKK => ?_)
        go_simp
        refine (GS.out _ p q hS).mono ?_
        rintro e w22 ⟨rfl, b5⟩
        replace hB := hB.trans (b5.mono hB.size)
        replace hHeld := (⟨below_cell b5 hHeld.1, below_cell b5 hHeld.2.1, below_cell b5 hHeld.2.2⟩ : _ ∧ _ ∧ _)
        replace hS := hS.on b5
        clear b5
        go_wp2_with fail
        refine hKK.out _ _ hHeld ?_
        clear hHeld
        intro hHeld
        clear hKK KK
        try simp only [Act.put, List.setIfInBounds_toArray, List.set_cons_zero, List.set_cons_succ]
        refine take' 5 (v := ?_) rfl (by kernel_rfl) (by kernel_rfl) (by kernel_rfl) (fun _ _ _ h => h) (Or.inl ⟨by rfl, ?_⟩) (by assumption) ?_
        rotate_left
        · intro w9 hSw
          go_simp
          first | done | with_reducible rfl
        simp only [Act.put, List.setIfInBounds_toArray, List.set_cons_zero, List.set_cons_succ]
        refine take' 6 (v := ?_) rfl (by kernel_rfl) (by kernel_rfl) (by kernel_rfl) (fun _ _ _ h => h) (Or.inl ⟨by rfl, ?_⟩) (by assumption) ?_
        rotate_left
        · intro w9 hSw
          go_simp
          first | done | with_reducible rfl
        simp only [Act.put, List.setIfInBounds_toArray, List.set_cons_zero, List.set_cons_succ]
        refine take' 7 (v := ?_) rfl (by kernel_rfl) (by kernel_rfl) (by kernel_rfl) (fun _ _ _ h => h) (Or.inl ⟨by rfl, ?_⟩) (by assumption) ?_
        rotate_left
        · intro w9 hSw
          go_simp
          first | done | with_reducible rfl
        simp only [Act.put, List.setIfInBounds_toArray, List.set_cons_zero, List.set_cons_succ]
        refine take' 8 (v := ?_) rfl (by kernel_rfl) (by kernel_rfl) (by kernel_rfl) (fun _ _ _ h => h) (Or.inl ⟨by rfl, ?_⟩) (by assumption) ?_
        rotate_left
        · intro w9 hSw
          go_simp
          first | done | with_reducible rfl
        simp only [Act.put, List.setIfInBounds_toArray, List.set_cons_zero, List.set_cons_succ]
        refine wpAnyH_ready (rs := [9]) (by kernel_rfl) (by simp) ?_
        refine cons' rfl (fun KK hKK => ?_)
        go_simp
        refine (GW.out _).mono ?_
        rintro e w23 ⟨p9, q9, rfl, b6, h9⟩
        replace hB := hB.trans (b6.mono hB.size)
        replace hHeld := (⟨below_cell b6 hHeld.1, below_cell b6 hHeld.2.1, below_cell b6 hHeld.2.2⟩ : _ ∧ _ ∧ _)
        replace hS := hS.on b6
        clear b6
        go_wp2_with fail
        refine hKK.out _ _ hHeld ?_
        clear hHeld
        intro hHeld
        clear hKK KK
        try simp only [Act.put, List.setIfInBounds_toArray, List.set_cons_zero, List.set_cons_succ]
        refine wpAnyH_ready (rs := [10]) (by kernel_rfl) (by simp) ?_
        refine cons' rfl (fun KK hKK => ?_)
        go_simp
        refine (GO.out _ p q p9 q9 hS h9).mono ?_
        rintro e w24 ⟨rfl, b7⟩
        replace hB := hB.trans (b7.mono hB.size)
        replace hHeld := (⟨below_cell b7 hHeld.1, below_cell b7 hHeld.2.1, below_cell b7 hHeld.2.2⟩ : _ ∧ _ ∧ _)
        replace hS := hS.on b7
        clear b7 h9
        go_wp2_with fail
        refine hKK.out _ _ hHeld ?_
        clear hHeld
        intro hHeld
        clear hKK KK
        try simp only [Act.put, List.setIfInBounds_toArray, List.set_cons_zero, List.set_cons_succ]
        refine take' 11 (v := ?_) rfl (by kernel_rfl) (by kernel_rfl) (by kernel_rfl) (fun _ _ _ h => h) (Or.inl ⟨by rfl, ?_⟩) (by assumption) ?_
        rotate_left
        · intro w9 hSw
          go_simp
          first | done | with_reducible rfl
        simp only [Act.put, List.setIfInBounds_toArray, List.set_cons_zero, List.set_cons_succ]
        refine take' 12 (v := ?_) rfl (by kernel_rfl) (by kernel_rfl) (by kernel_rfl) (fun _ _ _ h => h) (Or.inl ⟨by rfl, ?_⟩) (by assumption) ?_
        rotate_left
        · intro w9 hSw
          go_simp
          first | done | with_reducible rfl
        simp only [Act.put, List.setIfInBounds_toArray, List.set_cons_zero, List.set_cons_succ]
        refine wpAnyH_done (by kernel_rfl) ?_ _
        have y0 := hHeld.1
        have y1 := hHeld.2.1
        have y2 := hHeld.2.2
        clear hHeld GS GW GO
        go_wp2_with fail
        refine (GP.out _ p q hS).mono ?_
        rintro e w25 ⟨p6, q6, rfl, b6, hT⟩
        replace hB := hB.trans (b6.mono hB.size)
        clear b6
        clear y0 y1 y2 hS GP
        obtain ⟨w26, hwC⟩ : ∃ wC, w25.alloc (.cells #[.bool (ng T.num), .slice p6 (ln (am T.num)) (ln (am T.num)), .slice q6 (ln T.den) (ln T.den)] 28) = wC := ⟨_, rfl⟩
        have bC : Below w25.heap.size w25 w26 := by subst hwC; exact below_alloc _
        have x0 : w26.cell? ⟨w25.heap.size, 0, none⟩ = some (.bool (ng T.num)) := by subst hwC; go_simp
        have x1 : w26.cell? ⟨w25.heap.size, 1, none⟩ = some (.slice p6 (ln (am T.num)) (ln (am T.num))) := by subst hwC; go_simp
        have x2 : w26.cell? ⟨w25.heap.size, 2, none⟩ = some (.slice q6 (ln T.den) (ln T.den)) := by subst hwC; go_simp
        replace hT := hT.on bC
        replace hB := hB.trans (bC.mono hB.size)
        clear bC
        go_wp2_with fail
        clear hwC
        obtain ⟨c10, hc10⟩ : ∃ c, w25.heap.size = c := ⟨_, rfl⟩
        rw [hc10] at x0 x1 x2 ⊢
        clear hc10
        go_loopw [11] (fun vi wr => ∃ t : Nat, t ≤ j ∧ vi = .int .i64 t ∧ Below w26.heap.size w26 wr) (fun vi _ => j - (intOf vi).toNat)
        case atStart => exact ⟨0, Nat.zero_le _, rfl, Below.refl _ _⟩
        case round =>
          obtain ⟨t, ht, rfl, bL⟩ := hrel
          by_cases hlt2 : t < j
          · obtain ⟨bb, off, rfl, hb, hcell⟩ := HA.out (by omega)
            replace x0 := below_cell bL x0
            replace x1 := below_cell bL x1
            replace x2 := below_cell bL x2
            replace hT := hT.on bL
            replace hB := hB.trans (bL.mono hB.size)
            have hcj := (hcell t hlt2).later hB
            have mt := mu.out t hlt2
            have HB := hide' (fun w' hb h9 => GB.out w' t hlt2 p6 q6 hb h9)
            have HH := hide' (fun w' hb h9 => GH.out w' t hlt2 p6 q6 hb h9)
            have HC := hide' (fun w' p q p1 q1 h9 h8 => GC.out w' t hlt2 p q p1 q1 h9 h8)
            obtain ⟨gk, hgk⟩ : ∃ gk, k t = gk := ⟨_, rfl⟩
            rw [hgk] at hcj HB HH HC mt
            obtain ⟨d0, d1, d2, d3, d4, d5, d6, d7, d8, d9, d10, d11⟩ := hcj
            rw [Nat.add_zero] at d0
            have j0 : (0 : Int) ≤ (t : Int) := by omega
            have j1 : (t : Int) < (j : Int) := by omega
            have hgt := sR_gt (r := atR gk.val.1 T) (t := atR gk.val.2 T) _ rfl
            obtain ⟨C3, hC3⟩ : ∃ C, sR (atR gk.val.1 T - atR gk.val.2 T) = C := ⟨_, rfl⟩
            rw [hC3] at hgt HC
            have c3 : ¬ 0 < C3 := fun h => mt (hgt.1 h)
            clear hC3 hgt mt
            obtain ⟨X, hX⟩ : ∃ X, atR gk.val.1 T = X := ⟨_, rfl⟩
            obtain ⟨Y, hY⟩ : ∃ Y, atR gk.val.2 T = Y := ⟨_, rfl⟩
            rw [hX] at HB HC
            rw [hY] at HH HC
            clear hX hY hcell GB GH GC HA GK
            go_wp2_with fail
            have bD : Below wr.heap.size wr wr.drew := (Below.refl _ _).drew
            have kd0 := below_cell bD d0
            have kd1 := below_cell bD d1
            have kd2 := below_cell bD d2
            have kd3 := below_cell bD d3
            have kd4 := below_cell bD d4
            have kd5 := below_cell bD d5
            have kd6 := below_cell bD d6
            have kd7 := below_cell bD d7
            have kd8 := below_cell bD d8
            have kd9 := below_cell bD d9
            have kd10 := below_cell bD d10
            have kd11 := below_cell bD d11
            have kx0 := below_cell bD x0
            have kx1 := below_cell bD x1
            have kx2 := below_cell bD x2
            replace hB := hB.trans (bD.mono hB.size)
            refine wp_region_held_drew (S := fun w' => w'.cell? ⟨bb, off + t * 12, none⟩ = some (.bool gk.lo.a.s) ∧ w'.cell? ⟨bb, off + t * 12 + 1, none⟩ = some (.slice gk.lo.a.a gk.lo.a.n gk.lo.a.c) ∧ w'.cell? ⟨bb, off + t * 12 + 2, none⟩ = some (.slice gk.lo.a.b gk.lo.a.m gk.lo.a.e) ∧ w'.cell? ⟨bb, off + t * 12 + 3, none⟩ = some (.bool gk.lo.b.s) ∧ w'.cell? ⟨bb, off + t * 12 + 4, none⟩ = some (.slice gk.lo.b.a gk.lo.b.n gk.lo.b.c) ∧ w'.cell? ⟨bb, off + t * 12 + 5, none⟩ = some (.slice gk.lo.b.b gk.lo.b.m gk.lo.b.e) ∧ w'.cell? ⟨bb, off + t * 12 + 6, none⟩ = some (.bool gk.hi.a.s) ∧ w'.cell? ⟨bb, off + t * 12 + 7, none⟩ = some (.slice gk.hi.a.a gk.hi.a.n gk.hi.a.c) ∧ w'.cell? ⟨bb, off + t * 12 + 8, none⟩ = some (.slice gk.hi.a.b gk.hi.a.m gk.hi.a.e) ∧ w'.cell? ⟨bb, off + t * 12 + 9, none⟩ = some (.bool gk.hi.b.s) ∧ w'.cell? ⟨bb, off + t * 12 + 10, none⟩ = some (.slice gk.hi.b.a gk.hi.b.n gk.hi.b.c) ∧ w'.cell? ⟨bb, off + t * 12 + 11, none⟩ = some (.slice gk.hi.b.b gk.hi.b.m gk.hi.b.e) ∧ w'.cell? ⟨c10, 0, none⟩ = some (.bool (ng T.num)) ∧ w'.cell? ⟨c10, 1, none⟩ = some (.slice p6 (ln (am T.num)) (ln (am T.num))) ∧ w'.cell? ⟨c10, 2, none⟩ = some (.slice q6 (ln T.den) (ln T.den))) (by kernel_rfl) ⟨kd0, kd1, kd2, kd3, kd4, kd5, kd6, kd7, kd8, kd9, kd10, kd11, kx0, kx1, kx2⟩ (fun hHeld => ?_)
            clear kd0 kd1 kd2 kd3 kd4 kd5 kd6 kd7 kd8 kd9 kd10 kd11 kx0 kx1 kx2
            generalize wr.drew = w31 at bD hB hHeld ⊢
            replace hT := hT.on bD
            have bR : Below wr.heap.size wr w31 := bD
            clear bD x0 x1 x2 d0 d1 d2 d3 d4 d5 d6 d7 d8 d9 d10 d11
            refine take' 0 (v := ?_) rfl (by kernel_rfl) (by kernel_rfl) (by kernel_rfl) (fun _ _ _ h => h) (Or.inl ⟨by rfl, ?_⟩) (by assumption) ?_
            rotate_left
            · intro w9 hSw
              go_simp
              first | done | with_reducible rfl
            simp only [Act.put, List.setIfInBounds_toArray, List.set_cons_zero, List.set_cons_succ]
            refine take' 1 (v := ?_) rfl (by kernel_rfl) (by kernel_rfl) (by kernel_rfl) (fun _ _ _ h => h) (Or.inl ⟨by rfl, ?_⟩) (by assumption) ?_
            rotate_left
            · intro w9 hSw
              go_simp
              first | done | with_reducible rfl
            simp only [Act.put, List.setIfInBounds_toArray, List.set_cons_zero, List.set_cons_succ]
            refine take' 2 (v := ?_) rfl (by kernel_rfl) (by kernel_rfl) (by kernel_rfl) (fun _ _ _ h => h) (Or.inl ⟨by rfl, ?_⟩) (by assumption) ?_
            rotate_left
            · intro w9 hSw
              go_simp
              first | done | with_reducible rfl
            simp only [Act.put, List.setIfInBounds_toArray, List.set_cons_zero, List.set_cons_succ]
            refine take' 3 (v := ?_) rfl (by kernel_rfl) (by kernel_rfl) (by kernel_rfl) (fun _ _ _ h => h) (Or.inl ⟨by rfl, ?_⟩) (by assumption) ?_
            rotate_left
            · intro w9 hSw
              go_simp
              first | done | with_reducible rfl
            simp only [Act.put, List.setIfInBounds_toArray, List.set_cons_zero, List.set_cons_succ]
            refine take' 4 (v := ?_) rfl (by kernel_rfl) (by kernel_rfl) (by kernel_rfl) (fun _ _ _ h => h) (Or.inl ⟨by rfl, ?_⟩) (by assumption) ?_
            rotate_left
            · intro w9 hSw
              go_simp
              first | done | with_reducible rfl
            simp only [Act.put, List.setIfInBounds_toArray, List.set_cons_zero, List.set_cons_succ]
            refine take' 5 (v := ?_) rfl (by kernel_rfl) (by kernel_rfl) (by kernel_rfl) (fun _ _ _ h => h) (Or.inl ⟨by rfl, ?_⟩) (by assumption) ?_
            rotate_left
            · intro w9 hSw
              go_simp
              first | done | with_reducible rfl
            simp only [Act.put, List.setIfInBounds_toArray, List.set_cons_zero, List.set_cons_succ]
            refine take' 7 (v := ?_) rfl (by kernel_rfl) (by kernel_rfl) (by kernel_rfl) (fun _ _ _ h => h) (Or.inl ⟨by rfl, ?_⟩) (by assumption) ?_
            rotate_left
            · intro w9 hSw
              go_simp
              first | done | with_reducible rfl
            simp only [Act.put, List.setIfInBounds_toArray, List.set_cons_zero, List.set_cons_succ]
            refine take' 8 (v := ?_) rfl (by kernel_rfl) (by kernel_rfl) (by kernel_rfl) (fun _ _ _ h => h) (Or.inl ⟨by rfl, ?_⟩) (by assumption) ?_
            rotate_left
            · intro w9 hSw
              go_simp
              first | done | with_reducible rfl
            simp only [Act.put, List.setIfInBounds_toArray, List.set_cons_zero, List.set_cons_succ]
            refine take' 9 (v := ?_) rfl (by kernel_rfl) (by kernel_rfl) (by kernel_rfl) (fun _ _ _ h => h) (Or.inl ⟨by rfl, ?_⟩) (by assumption) ?_
            rotate_left
            · intro w9 hSw
              go_simp
              first | done | with_reducible rfl
            simp only [Act.put, List.setIfInBounds_toArray, List.set_cons_zero, List.set_cons_succ]
            refine take' 10 (v := ?_) rfl (by kernel_rfl) (by kernel_rfl) (by kernel_rfl) (fun _ _ _ h => h) (Or.inl ⟨by rfl, ?_⟩) (by assumption) ?_
            rotate_left
            · intro w9 hSw
              go_simp
              first | done | with_reducible rfl
            simp only [Act.put, List.setIfInBounds_toArray, List.set_cons_zero, List.set_cons_succ]
            refine take' 11 (v := ?_) rfl (by kernel_rfl) (by kernel_rfl) (by kernel_rfl) (fun _ _ _ h => h) (Or.inl ⟨by rfl, ?_⟩) (by assumption) ?_
            rotate_left
            · intro w9 hSw
              go_simp
              first | done | with_reducible rfl
            simp only [Act.put, List.setIfInBounds_toArray, List.set_cons_zero, List.set_cons_succ]
            refine take' 12 (v := ?_) rfl (by kernel_rfl) (by kernel_rfl) (by kernel_rfl) (fun _ _ _ h => h) (Or.inl ⟨by rfl, ?_⟩) (by assumption) ?_
            rotate_left
            · intro w9 hSw
              go_simp
              first | done | with_reducible rfl
            simp only [Act.put, List.setIfInBounds_toArray, List.set_cons_zero, List.set_cons_succ]
            refine wpAnyH_ready (rs := [6]) (by kernel_rfl) (by simp) ?_
            refine cons' rfl (fun KK hKK => ?_)
            go_simp
            refine (HB.out _ hB hT).mono ?_
            rintro e w32 ⟨p7, q7, rfl, b7, h7⟩
            replace hB := hB.trans (b7.mono hB.size)
            replace bR := bR.trans (b7.mono bR.size)
            replace hHeld := (⟨below_cell b7 hHeld.1, below_cell b7 hHeld.2.1, below_cell b7 hHeld.2.2.1, below_cell b7 hHeld.2.2.2.1, below_cell b7 hHeld.2.2.2.2.1, below_cell b7 hHeld.2.2.2.2.2.1, below_cell b7 hHeld.2.2.2.2.2.2.1, below_cell b7 hHeld.2.2.2.2.2.2.2.1, below_cell b7 hHeld.2.2.2.2.2.2.2.2.1, below_cell b7 hHeld.2.2.2.2.2.2.2.2.2.1, below_cell b7 hHeld.2.2.2.2.2.2.2.2.2.2.1, below_cell b7 hHeld.2.2.2.2.2.2.2.2.2.2.2.1, below_cell b7 hHeld.2.2.2.2.2.2.2.2.2.2.2.2.1, below_cell b7 hHeld.2.2.2.2.2.2.2.2.2.2.2.2.2.1, below_cell b7 hHeld.2.2.2.2.2.2.2.2.2.2.2.2.2.2⟩ : _ ∧ _ ∧ _ ∧ _ ∧ _ ∧ _ ∧ _ ∧ _ ∧ _ ∧ _ ∧ _ ∧ _ ∧ _ ∧ _ ∧ _)
            replace hT := hT.on b7
            clear b7
            go_wp2_with fail
            refine hKK.out _ _ hHeld ?_
            clear hHeld
            intro hHeld
            clear hKK KK
            try simp only [Act.put, List.setIfInBounds_toArray, List.set_cons_zero, List.set_cons_succ]
            refine wpAnyH_ready (rs := [13]) (by kernel_rfl) (by simp) ?_
            refine cons' rfl (fun KK hKK => ?_)
            go_simp
            refine (HH.out _ hB hT).mono ?_
            rintro e w33 ⟨p8, q8, rfl, b8, h8⟩
            replace hB := hB.trans (b8.mono hB.size)
            replace bR := bR.trans (b8.mono bR.size)
            replace hHeld := (⟨below_cell b8 hHeld.1, below_cell b8 hHeld.2.1, below_cell b8 hHeld.2.2.1, below_cell b8 hHeld.2.2.2.1, below_cell b8 hHeld.2.2.2.2.1, below_cell b8 hHeld.2.2.2.2.2.1, below_cell b8 hHeld.2.2.2.2.2.2.1, below_cell b8 hHeld.2.2.2.2.2.2.2.1, below_cell b8 hHeld.2.2.2.2.2.2.2.2.1, below_cell b8 hHeld.2.2.2.2.2.2.2.2.2.1, below_cell b8 hHeld.2.2.2.2.2.2.2.2.2.2.1, below_cell b8 hHeld.2.2.2.2.2.2.2.2.2.2.2.1, below_cell b8 hHeld.2.2.2.2.2.2.2.2.2.2.2.2.1, below_cell b8 hHeld.2.2.2.2.2.2.2.2.2.2.2.2.2.1, below_cell b8 hHeld.2.2.2.2.2.2.2.2.2.2.2.2.2.2⟩ : _ ∧ _ ∧ _ ∧ _ ∧ _ ∧ _ ∧ _ ∧ _ ∧ _ ∧ _ ∧ _ ∧ _ ∧ _ ∧ _ ∧ _)
            replace h7 := h7.on b8
            clear b8
            go_wp2_with fail
            refine hKK.out _ _ hHeld ?_
            clear hHeld
            intro hHeld
            clear hKK KK
            try simp only [Act.put, List.setIfInBounds_toArray, List.set_cons_zero, List.set_cons_succ]
            refine wpAnyH_ready (rs := [14]) (by kernel_rfl) (by simp) ?_
            refine cons' rfl (fun KK hKK => ?_)
            go_simp
            refine (HC.out _ p7 q7 p8 q8 h7 h8).mono ?_
            rintro e w34 ⟨rfl, b9⟩
            replace hB := hB.trans (b9.mono hB.size)
            replace bR := bR.trans (b9.mono bR.size)
            replace hHeld := (⟨below_cell b9 hHeld.1, below_cell b9 hHeld.2.1, below_cell b9 hHeld.2.2.1, below_cell b9 hHeld.2.2.2.1, below_cell b9 hHeld.2.2.2.2.1, below_cell b9 hHeld.2.2.2.2.2.1, below_cell b9 hHeld.2.2.2.2.2.2.1, below_cell b9 hHeld.2.2.2.2.2.2.2.1, below_cell b9 hHeld.2.2.2.2.2.2.2.2.1, below_cell b9 hHeld.2.2.2.2.2.2.2.2.2.1, below_cell b9 hHeld.2.2.2.2.2.2.2.2.2.2.1, below_cell b9 hHeld.2.2.2.2.2.2.2.2.2.2.2.1, below_cell b9 hHeld.2.2.2.2.2.2.2.2.2.2.2.2.1, below_cell b9 hHeld.2.2.2.2.2.2.2.2.2.2.2.2.2.1, below_cell b9 hHeld.2.2.2.2.2.2.2.2.2.2.2.2.2.2⟩ : _ ∧ _ ∧ _ ∧ _ ∧ _ ∧ _ ∧ _ ∧ _ ∧ _ ∧ _ ∧ _ ∧ _ ∧ _ ∧ _ ∧ _)
            clear b9 h7 h8
            go_wp2_with fail
            refine hKK.out _ _ hHeld ?_
            clear hHeld
            intro hHeld
            clear hKK KK
            try simp only [Act.put, List.setIfInBounds_toArray, List.set_cons_zero, List.set_cons_succ]
            refine take' 15 (v := ?_) rfl (by kernel_rfl) (by kernel_rfl) (by kernel_rfl) (fun _ _ _ h => h) (Or.inl ⟨by rfl, ?_⟩) (by assumption) ?_
            rotate_left
            · intro w9 hSw
              go_simp
              first | done | with_reducible rfl
            simp only [Act.put, List.setIfInBounds_toArray, List.set_cons_zero, List.set_cons_succ]
            refine wpAnyH_done (by kernel_rfl) ?_ _
            clear hHeld HB HH HC
            have I2 := hide' (bL.trans (bR.mono bL.size))
            clear bL bR
            go_wp2
            go_roundw
            case rel => exact ⟨t + 1, by omega, by go_num, I2.out⟩
            case measure => simp [intOf]; omega
          · obtain rfl : t = j := by omega
            have i2 : ¬ (t : Int) < (t : Int) := by omega
            have hB9 := hB.trans (bL.mono hB.size)
            go_wp2
            go_ret
            exact ⟨rfl, hB9⟩
  · skip
    replace hB := hB.trans (b2.mono hB.size)
    clear b2
    go_upto_region 2 with fail
    obtain ⟨w3, hwC⟩ : ∃ wC, w2.alloc (.cells #[.bool false, .slice none 0 0, .slice none 0 0] 28) = wC := ⟨_, rfl⟩
    have bC : Below w2.heap.size w2 w3 := by subst hwC; exact below_alloc _
    rw [hwC]
    clear hwC
    replace hB := hB.trans (bC.mono hB.size)
    clear bC
    go_wp2_with fail
    refine (GL.out _ hB).mono ?_
    rintro e w4 ⟨rfl, b4⟩
    replace hB := hB.trans (b4.mono hB.size)
    clear b4
    go_wp2_with fail
    go_loopw [9] (fun vi wr => ∃ j : Nat, j ≤ n ∧ vi = .int .i64 j ∧ (∀ i, i < j → ¬ badG (k i).val) ∧ Below w4.heap.size w4 wr) (fun vi _ => n - (intOf vi).toNat)
    case atStart => exact ⟨0, Nat.zero_le _, rfl, fun i hi => absurd hi (by omega), Below.refl _ _⟩
    case round =>
      obtain ⟨j, hj, rfl, hnb, bL⟩ := hrel
      replace hB := hB.trans (bL.mono hB.size)
      by_cases hlt : j < n
      · obtain ⟨bb, off, rfl, hb, hcell⟩ := HA.out (by omega)
        have hcj := (hcell j hlt).later hB
        have HK := hide' (fun w' hb => GK.out j hlt w' hb)
        obtain ⟨gk, hgk⟩ : ∃ gk, k j = gk := ⟨_, rfl⟩
        rw [hgk] at hcj HK
        obtain ⟨d0, d1, d2, d3, d4, d5, d6, d7, d8, d9, d10, d11⟩ := hcj
        rw [Nat.add_zero] at d0
        have j0 : (0 : Int) ≤ (j : Int) := by omega
        have j1 : (j : Int) < (n : Int) := by omega
        have hbc := bad_cmp gk
        obtain ⟨C, hC⟩ : ∃ C, cmpD gk.lo.val gk.hi.val = C := ⟨_, rfl⟩
        rw [hC] at HK hbc
        replace hbc := hide' hbc
        replace hnb := hide' hnb
        clear hC hcell HA GK
        have bR : Below wr.heap.size wr wr := Below.refl _ _
        go_wp2_with fail
        have bD : Below wr.heap.size wr wr.drew := (Below.refl _ _).drew
        have kd0 := below_cell bD d0
        have kd1 := below_cell bD d1
        have kd2 := below_cell bD d2
        have kd3 := below_cell bD d3
        have kd4 := below_cell bD d4
        have kd5 := below_cell bD d5
        have kd6 := below_cell bD d6
        have kd7 := below_cell bD d7
        have kd8 := below_cell bD d8
        have kd9 := below_cell bD d9
        have kd10 := below_cell bD d10
        have kd11 := below_cell bD d11
        replace hB := hB.trans (bD.mono hB.size)
        replace bR := bR.trans (bD.mono bR.size)
        refine wp_region_held_drew (S := fun w' => w'.cell? ⟨bb, off + j * 12, none⟩ = some (.bool gk.lo.a.s) ∧ w'.cell? ⟨bb, off + j * 12 + 1, none⟩ = some (.slice gk.lo.a.a gk.lo.a.n gk.lo.a.c) ∧ w'.cell? ⟨bb, off + j * 12 + 2, none⟩ = some (.slice gk.lo.a.b gk.lo.a.m gk.lo.a.e) ∧ w'.cell? ⟨bb, off + j * 12 + 3, none⟩ = some (.bool gk.lo.b.s) ∧ w'.cell? ⟨bb, off + j * 12 + 4, none⟩ = some (.slice gk.lo.b.a gk.lo.b.n gk.lo.b.c) ∧ w'.cell? ⟨bb, off + j * 12 + 5, none⟩ = some (.slice gk.lo.b.b gk.lo.b.m gk.lo.b.e) ∧ w'.cell? ⟨bb, off + j * 12 + 6, none⟩ = some (.bool gk.hi.a.s) ∧ w'.cell? ⟨bb, off + j * 12 + 7, none⟩ = some (.slice gk.hi.a.a gk.hi.a.n gk.hi.a.c) ∧ w'.cell? ⟨bb, off + j * 12 + 8, none⟩ = some (.slice gk.hi.a.b gk.hi.a.m gk.hi.a.e) ∧ w'.cell? ⟨bb, off + j * 12 + 9, none⟩ = some (.bool gk.hi.b.s) ∧ w'.cell? ⟨bb, off + j * 12 + 10, none⟩ = some (.slice gk.hi.b.a gk.hi.b.n gk.hi.b.c) ∧ w'.cell? ⟨bb, off + j * 12 + 11, none⟩ = some (.slice gk.hi.b.b gk.hi.b.m gk.hi.b.e)) (by kernel_rfl) ⟨kd0, kd1, kd2, kd3, kd4, kd5, kd6, kd7, kd8, kd9, kd10, kd11⟩ (fun hHeld => ?_)
        clear kd0 kd1 kd2 kd3 kd4 kd5 kd6 kd7 kd8 kd9 kd10 kd11
        generalize wr.drew = w11 at bD hB bR hHeld ⊢
        clear bD d0 d1 d2 d3 d4 d5 d6 d7 d8 d9 d10 d11
        refine take' 0 (v := ?_) rfl (by kernel_rfl) (by kernel_rfl) (by kernel_rfl) (fun _ _ _ h => h) (Or.inl ⟨by rfl, ?_⟩) (by assumption) ?_
        rotate_left
        · intro w9 hSw
          go_simp
          first | done | with_reducible rfl
        simp only [Act.put, List.setIfInBounds_toArray, List.set_cons_zero, List.set_cons_succ]
        refine take' 1 (v := ?_) rfl (by kernel_rfl) (by kernel_rfl) (by kernel_rfl) (fun _ _ _ h => h) (Or.inl ⟨by rfl, ?_⟩) (by assumption) ?_
        rotate_left
        · intro w9 hSw
          go_simp
          first | done | with_reducible rfl
        simp only [Act.put, List.setIfInBounds_toArray, List.set_cons_zero, List.set_cons_succ]
        refine take' 2 (v := ?_) rfl (by kernel_rfl) (by kernel_rfl) (by kernel_rfl) (fun _ _ _ h => h) (Or.inl ⟨by rfl, ?_⟩) (by assumption) ?_
        rotate_left
        · intro w9 hSw
          go_simp
          first | done | with_reducible rfl
        simp only [Act.put, List.setIfInBounds_toArray, List.set_cons_zero, List.set_cons_succ]
        refine take' 3 (v := ?_) rfl (by kernel_rfl) (by kernel_rfl) (by kernel_rfl) (fun _ _ _ h => h) (Or.inl ⟨by rfl, ?_⟩) (by assumption) ?_
        rotate_left
        · intro w9 hSw
          go_simp
          first | done | with_reducible rfl
        simp only [Act.put, List.setIfInBounds_toArray, List.set_cons_zero, List.set_cons_succ]
        refine take' 4 (v := ?_) rfl (by kernel_rfl) (by kernel_rfl) (by kernel_rfl) (fun _ _ _ h => h) (Or.inl ⟨by rfl, ?_⟩) (by assumption) ?_
        rotate_left
        · intro w9 hSw
          go_simp
          first | done | with_reducible rfl
        simp only [Act.put, List.setIfInBounds_toArray, List.set_cons_zero, List.set_cons_succ]
        refine take' 5 (v := ?_) rfl (by kernel_rfl) (by kernel_rfl) (by kernel_rfl) (fun _ _ _ h => h) (Or.inl ⟨by rfl, ?_⟩) (by assumption) ?_
        rotate_left
        · intro w9 hSw
          go_simp
          first | done | with_reducible rfl
        simp only [Act.put, List.setIfInBounds_toArray, List.set_cons_zero, List.set_cons_succ]
        refine take' 6 (v := ?_) rfl (by kernel_rfl) (by kernel_rfl) (by kernel_rfl) (fun _ _ _ h => h) (Or.inl ⟨by rfl, ?_⟩) (by assumption) ?_
        rotate_left
        · intro w9 hSw
          go_simp
          first | done | with_reducible rfl
        simp only [Act.put, List.setIfInBounds_toArray, List.set_cons_zero, List.set_cons_succ]
        refine take' 7 (v := ?_) rfl (by kernel_rfl) (by kernel_rfl) (by kernel_rfl) (fun _ _ _ h => h) (Or.inl ⟨by rfl, ?_⟩) (by assumption) ?_
        rotate_left
        · intro w9 hSw
          go_simp
          first | done | with_reducible rfl
        simp only [Act.put, List.setIfInBounds_toArray, List.set_cons_zero, List.set_cons_succ]
        refine take' 8 (v := ?_) rfl (by kernel_rfl) (by kernel_rfl) (by kernel_rfl) (fun _ _ _ h => h) (Or.inl ⟨by rfl, ?_⟩) (by assumption) ?_
        rotate_left
        · intro w9 hSw
          go_simp
          first | done | with_reducible rfl
        simp only [Act.put, List.setIfInBounds_toArray, List.set_cons_zero, List.set_cons_succ]
        refine take' 9 (v := ?_) rfl (by kernel_rfl) (by kernel_rfl) (by kernel_rfl) (fun _ _ _ h => h) (Or.inl ⟨by rfl, ?_⟩) (by assumption) ?_
        rotate_left
        · intro w9 hSw
          go_simp
          first | done | with_reducible rfl
        simp only [Act.put, List.setIfInBounds_toArray, List.set_cons_zero, List.set_cons_succ]
        refine wpAnyH_ready (rs := [10]) (by kernel_rfl) (by simp) ?_
        refine cons' rfl (fun KK hKK => ?_)
        go_simp
        refine (HK.out _ hB).mono ?_
        rintro e w12 ⟨rfl, b5⟩
        have bC := b5
        replace hB := hB.trans (bC.mono hB.size)
        replace bR := bR.trans (bC.mono bR.size)
        replace hHeld := (⟨below_cell bC hHeld.1, below_cell bC hHeld.2.1, below_cell bC hHeld.2.2.1, below_cell bC hHeld.2.2.2.1, below_cell bC hHeld.2.2.2.2.1, below_cell bC hHeld.2.2.2.2.2.1, below_cell bC hHeld.2.2.2.2.2.2.1, below_cell bC hHeld.2.2.2.2.2.2.2.1, below_cell bC hHeld.2.2.2.2.2.2.2.2.1, below_cell bC hHeld.2.2.2.2.2.2.2.2.2.1, below_cell bC hHeld.2.2.2.2.2.2.2.2.2.2.1, below_cell bC hHeld.2.2.2.2.2.2.2.2.2.2.2⟩ : _ ∧ _ ∧ _ ∧ _ ∧ _ ∧ _ ∧ _ ∧ _ ∧ _ ∧ _ ∧ _ ∧ _)
        clear bC
        go_wp2_with fail
        clear b5
        refine hKK.out _ _ hHeld ?_
        clear hHeld
        intro hHeld
        clear hKK KK
        try simp only [Act.put, List.setIfInBounds_toArray, List.set_cons_zero, List.set_cons_succ]
        refine take' 11 (v := ?_) rfl (by kernel_rfl) (by kernel_rfl) (by kernel_rfl) (fun _ _ _ h => h) (Or.inl ⟨by rfl, ?_⟩) (by assumption) ?_
        rotate_left
        · intro w9 hSw
          go_simp
          first | done | with_reducible rfl
        simp only [Act.put, List.setIfInBounds_toArray, List.set_cons_zero, List.set_cons_succ]
        refine wpAnyH_done (by kernel_rfl) ?_ _
        clear hHeld HK
        by_cases hbd : badG gk.val
        · have c1 : 0 < C := hbc.out.2 hbd
          go_wp2
          go_ret
          exact ⟨rfl, hB⟩
        · skip
          have c1 : ¬ 0 < C := fun h => hbd (hbc.out.1 h)
          have I1 := hide' (show (∀ i, i < j + 1 → ¬ badG (k i).val) ∧ Below w4.heap.size w4 w12 from ⟨fun i hi => by
            rcases Nat.lt_or_ge i j with h | h
            · exact hnb.out i h
            · obtain rfl : i = j := by omega
              rw [hgk]; exact hbd, bL.trans (bR.mono bL.size)⟩)
          clear hnb bL bR hB
          go_wp2
          go_roundw
          case rel => exact ⟨j + 1, by omega, by go_num, I1.out⟩
          case measure => simp [intOf]; omega
      · obtain rfl : j = n := by omega
        obtain ⟨i9, hi9, hb9⟩ := hbad
        exact absurd hb9 (hnb i9 hi9)
theorem walk (a : Option Addr) (n cap : Nat) (k : Nat → GapV) (x : Nat) (y : Nat) (w : World) (hA : GapsAt w a n k) (hok : ∀ i, i < n → (k i).ok w) (hc : n ≤ cap) (hx : x < 4294967296) (hy : y < 4294967296) (hb : bulkG k n ≤ 1048576) (hDg : Digits w) :
    Calls Tryz.prog 4 #[.slice a n cap, .int .u32 (x : Int), .int .u32 (y : Int)] w fun e w' => e = .returned (.bool true) ∧ Below w.heap.size w w' :=
  walkM a n cap k x y w hA (fun i hi => ⟨hok i hi, bulkG_tiny hb hi⟩) hc (by have := bulkG_n (k := k) n; omega) hx hy hDg

theorem gTab : Tryz.prog.globalNamed "fulcrum/nat.digits" = some 3 := by kernel_rfl
theorem gTabType : (Tryz.prog.globals[3]?).map (·.type) = some 174 := by kernel_rfl
theorem cellsA : Tryz.prog.cellsOf 174 = 16 := by kernel_rfl
theorem cells8 : Tryz.prog.cellsOf 5 = 1 := by kernel_rfl
theorem table {W : World} (h : laidMetH Tryz.prog Rows.deltaKeepsUptoRow.laid W) : Lib.TabIs Tryz.prog W "fulcrum/nat.digits" .u8 [48, 49, 50, 51, 52, 53, 54, 55, 56, 57, 97, 98, 99, 100, 101, 102] :=
  Lib.tabIs_of_head (rest := [("unicode/utf8.acceptRanges", Rows.laid_unicode_utf8_acceptRanges), ("unicode/utf8.first", Rows.laid_unicode_utf8_first)]) gTab gTabType Tryz.underlying174 Tryz.underlying5 cells8 cellsA h
theorem digits_of {W : World} (h : laidMetH Tryz.prog Rows.deltaKeepsUptoRow.laid W) : Digits W :=
  ⟨(table h).cell gTab 0 (by decide), (table h).cell gTab 1 (by decide), (table h).cell gTab 2 (by decide), (table h).cell gTab 3 (by decide), (table h).cell gTab 4 (by decide)⟩

set_option maxRecDepth 100000 in
theorem contract (H : Type) (enc : TypeId × Value → H) (W : World) (base : Nat) (args : Array Value) (ds gs : List (DataW H)) (before : List MemPlace)
    (hval : ∀ (j : Nat) t v, Tryz.f4.params[j]? = some t → args[j]? = some v → Value.okWide Tryz.prog W .any base t v)
    (hW : DataW.Whole enc Tryz.prog Tryz.f4.params.toList Rows.deltaKeepsSpec.vars false W args.toList ds gs before)
    (hsz : (DataW.weightsEach Tryz.prog (Tryz.f4.params.toList ++ Rows.deltaKeepsSpec.plain.varTypes Tryz.prog) (ds ++ gs)).all (· ≤ reachBytes) = true) (hk : Rows.uptoSmall H (ds ++ gs) = true) (hL : laidMetH Tryz.prog Rows.deltaKeepsUptoRow.laid W) :
    Calls Tryz.prog 4 args W fun e W' => ∃ v, e = .returned v ∧ Rows.deltaKeepsSpec.post enc Tryz.prog Tryz.f4 false true false false W args v W' := by
  have hW' := hW
  obtain ⟨p, q, hA0, hV, rfl, hfz, hnd⟩ := hW
  have hA : DataW.TrodAll enc Tryz.prog W 0 (fun _ => true) true Tryz.f4.params.toList args.toList ds p := hA0
  rw [Tryz.params4] at hA hval hsz
  obtain ⟨v0, vs0, d0, ds0, p0, q0, hargs, rfl, rfl, h0, r0⟩ := trodAll_cons hA
  obtain ⟨v1, vs1, d1, ds1, p1, q1, rfl, rfl, rfl, h1, r1⟩ := trodAll_cons r0
  obtain ⟨v2, vs2, d2, ds2, p2, q2, rfl, rfl, rfl, h2, r2⟩ := trodAll_cons r1
  obtain ⟨rfl, rfl, rfl⟩ := trodAll_nil r2
  obtain rfl : args = #[v0, v1, v2] := by cases args; simp_all
  obtain ⟨rfl, rfl⟩ := trodVars_none hV
  have lt0 : ∀ x ∈ p0, x.block < W.heap.size := by obtain ⟨m, hm⟩ := h0; exact DataW.trod_lt m _ _ _ hm
  obtain ⟨xa0, xl0, xc0, rfl⟩ := okWide_slice Tryz.underlying22 (hval 0 22 v0 rfl rfl)
  obtain ⟨fu0, hm0⟩ := id h0
  obtain ⟨fa0, fn0, fc0, ff0, hcs0, hF0, hfo0, hfc0, hfz0, hfu0⟩ := open_Gaps hm0 (sized_at 0 hsz rfl rfl)
  simp [Value.cells] at hcs0
  obtain ⟨rfl, rfl, rfl⟩ := hcs0
  obtain ⟨z1, rfl, rfl, rfl, w1⟩ := open_int Tryz.underlying37 (hval 1 37 v1 rfl rfl) h1
  have bz1 := bounds_u32 w1
  obtain ⟨n1, rfl⟩ : ∃ n : Nat, z1 = (n : Int) := ⟨z1.toNat, by omega⟩
  have hn1 : n1 < 4294967296 := by omega
  obtain ⟨z2, rfl, rfl, rfl, w2⟩ := open_int Tryz.underlying37 (hval 2 37 v2 rfl rfl) h2
  have bz2 := bounds_u32 w2
  obtain ⟨n2, rfl⟩ : ∃ n : Nat, z2 = (n : Int) := ⟨z2.toNat, by omega⟩
  have hn2 : n2 < 4294967296 := by omega
  clear hA0
  have hbulk := of_decide_eq_true hk
  simp only [List.append_nil, Rows.uptoBulkAll] at hbulk
  simp only [List.append_nil] at hW'
  refine (walk xa0 xl0 xc0 ff0 n1 n2 W hF0 hfo0 hfc0 hn1 hn2 (by omega) (digits_of hL)).mono fun e W' ⟨he, bel⟩ => ?_
  subst he
  exact ⟨_, rfl, _, _, _, [], _, [], hW', trodAll_mk1 (shut_bool Tryz.underlying4 _), (trodAll_cons_mk (Below.trod laidOut (by kernel_rfl) (of_decide_eq_true (by kernel_rfl)) h0 bel lt0) (trodAll_cons_mk (shut_int Tryz.underlying37 w1) (trodAll_cons_mk (shut_int Tryz.underlying37 w2) trodAll_mk0))), rfl, bel.frame _, fun h => by cases h⟩

def setCells (cs : Array Value) : Obj → Obj
  | .cells _ t frozen => .cells cs t frozen
  | o => o
set_option maxRecDepth 100000 in
noncomputable def laidWorld (os : Os) : World :=
  { World.holding Tryz.prog os ⟨#[], #[], []⟩ with heap := ((((World.holding Tryz.prog os ⟨#[], #[], []⟩).heap.modify 3 (setCells #[.int .u8 48, .int .u8 49, .int .u8 50, .int .u8 51, .int .u8 52, .int .u8 53, .int .u8 54, .int .u8 55, .int .u8 56, .int .u8 57, .int .u8 97, .int .u8 98, .int .u8 99, .int .u8 100, .int .u8 101, .int .u8 102])).modify 2 (setCells #[.int .u8 128, .int .u8 191, .int .u8 160, .int .u8 191, .int .u8 128, .int .u8 159, .int .u8 144, .int .u8 191, .int .u8 128, .int .u8 143, .int .u8 0, .int .u8 0, .int .u8 0, .int .u8 0, .int .u8 0, .int .u8 0, .int .u8 0, .int .u8 0, .int .u8 0, .int .u8 0, .int .u8 0, .int .u8 0, .int .u8 0, .int .u8 0, .int .u8 0, .int .u8 0, .int .u8 0, .int .u8 0, .int .u8 0, .int .u8 0, .int .u8 0, .int .u8 0])).modify 1 (setCells #[.int .u8 240, .int .u8 240, .int .u8 240, .int .u8 240, .int .u8 240, .int .u8 240, .int .u8 240, .int .u8 240, .int .u8 240, .int .u8 240, .int .u8 240, .int .u8 240, .int .u8 240, .int .u8 240, .int .u8 240, .int .u8 240, .int .u8 240, .int .u8 240, .int .u8 240, .int .u8 240, .int .u8 240, .int .u8 240, .int .u8 240, .int .u8 240, .int .u8 240, .int .u8 240, .int .u8 240, .int .u8 240, .int .u8 240, .int .u8 240, .int .u8 240, .int .u8 240, .int .u8 240, .int .u8 240, .int .u8 240, .int .u8 240, .int .u8 240, .int .u8 240, .int .u8 240, .int .u8 240, .int .u8 240, .int .u8 240, .int .u8 240, .int .u8 240, .int .u8 240, .int .u8 240, .int .u8 240, .int .u8 240, .int .u8 240, .int .u8 240, .int .u8 240, .int .u8 240, .int .u8 240, .int .u8 240, .int .u8 240, .int .u8 240, .int .u8 240, .int .u8 240, .int .u8 240, .int .u8 240, .int .u8 240, .int .u8 240, .int .u8 240, .int .u8 240, .int .u8 240, .int .u8 240, .int .u8 240, .int .u8 240, .int .u8 240, .int .u8 240, .int .u8 240, .int .u8 240, .int .u8 240, .int .u8 240, .int .u8 240, .int .u8 240, .int .u8 240, .int .u8 240, .int .u8 240, .int .u8 240, .int .u8 240, .int .u8 240, .int .u8 240, .int .u8 240, .int .u8 240, .int .u8 240, .int .u8 240, .int .u8 240, .int .u8 240, .int .u8 240, .int .u8 240, .int .u8 240, .int .u8 240, .int .u8 240, .int .u8 240, .int .u8 240, .int .u8 240, .int .u8 240, .int .u8 240, .int .u8 240, .int .u8 240, .int .u8 240, .int .u8 240, .int .u8 240, .int .u8 240, .int .u8 240, .int .u8 240, .int .u8 240, .int .u8 240, .int .u8 240, .int .u8 240, .int .u8 240, .int .u8 240, .int .u8 240, .int .u8 240, .int .u8 240, .int .u8 240, .int .u8 240, .int .u8 240, .int .u8 240, .int .u8 240, .int .u8 240, .int .u8 240, .int .u8 240, .int .u8 240, .int .u8 240, .int .u8 240, .int .u8 240, .int .u8 241, .int .u8 241, .int .u8 241, .int .u8 241, .int .u8 241, .int .u8 241, .int .u8 241, .int .u8 241, .int .u8 241, .int .u8 241, .int .u8 241, .int .u8 241, .int .u8 241, .int .u8 241, .int .u8 241, .int .u8 241, .int .u8 241, .int .u8 241, .int .u8 241, .int .u8 241, .int .u8 241, .int .u8 241, .int .u8 241, .int .u8 241, .int .u8 241, .int .u8 241, .int .u8 241, .int .u8 241, .int .u8 241, .int .u8 241, .int .u8 241, .int .u8 241, .int .u8 241, .int .u8 241, .int .u8 241, .int .u8 241, .int .u8 241, .int .u8 241, .int .u8 241, .int .u8 241, .int .u8 241, .int .u8 241, .int .u8 241, .int .u8 241, .int .u8 241, .int .u8 241, .int .u8 241, .int .u8 241, .int .u8 241, .int .u8 241, .int .u8 241, .int .u8 241, .int .u8 241, .int .u8 241, .int .u8 241, .int .u8 241, .int .u8 241, .int .u8 241, .int .u8 241, .int .u8 241, .int .u8 241, .int .u8 241, .int .u8 241, .int .u8 241, .int .u8 241, .int .u8 241, .int .u8 2, .int .u8 2, .int .u8 2, .int .u8 2, .int .u8 2, .int .u8 2, .int .u8 2, .int .u8 2, .int .u8 2, .int .u8 2, .int .u8 2, .int .u8 2, .int .u8 2, .int .u8 2, .int .u8 2, .int .u8 2, .int .u8 2, .int .u8 2, .int .u8 2, .int .u8 2, .int .u8 2, .int .u8 2, .int .u8 2, .int .u8 2, .int .u8 2, .int .u8 2, .int .u8 2, .int .u8 2, .int .u8 2, .int .u8 2, .int .u8 19, .int .u8 3, .int .u8 3, .int .u8 3, .int .u8 3, .int .u8 3, .int .u8 3, .int .u8 3, .int .u8 3, .int .u8 3, .int .u8 3, .int .u8 3, .int .u8 3, .int .u8 35, .int .u8 3, .int .u8 3, .int .u8 52, .int .u8 4, .int .u8 4, .int .u8 4, .int .u8 68, .int .u8 241, .int .u8 241, .int .u8 241, .int .u8 241, .int .u8 241, .int .u8 241, .int .u8 241, .int .u8 241, .int .u8 241, .int .u8 241, .int .u8 241])) }
set_option maxRecDepth 100000 in
theorem laid_met (os : Os) : laidMet Tryz.prog Rows.deltaKeepsUptoRow.laid ((laidWorld os).forCall (fun _ _ => 0) ⟨#[], #[.slice none 0 0, .int .u32 0, .int .u32 0], []⟩).memory :=
  laidMet_of_run' 8 (by kernel_rfl) (by kernel_rfl)
theorem reads (os : Os) {H : Type} (enc : TypeId × Value → H) : ∃ places, DataW.whole enc Tryz.prog ((laidWorld os).forCall (fun _ _ => 0) ⟨#[], #[.slice none 0 0, .int .u32 0, .int .u32 0], []⟩).memory Tryz.f4.params.toList Rows.deltaKeepsSpec.vars false [Value.slice none 0 0, Value.int .u32 0, Value.int .u32 0] 8 = some ([.nil, .lit (.int .u32 0), .lit (.int .u32 0)], [], places) :=
  ⟨[], by kernel_rfl⟩

set_option maxRecDepth 100000 in
theorem liftedUpto (os : Os) (started : os.Started) (H : Type) (enc : TypeId × Value → H) (F : Stop.Interp) :
    ReturnsInHanded {} Tryz.checked os 4 .any ((Rows.OpenSpec.upto Rows.deltaKeepsSpec).preRow enc Tryz.prog Tryz.f4 Rows.deltaKeepsUptoRow.domain false Rows.deltaKeepsUptoRow.laid) (((Rows.OpenSpec.upto Rows.deltaKeepsSpec).at F).post enc Tryz.prog Tryz.f4 false true false false) := by
  obtain ⟨places, hx⟩ := reads os enc
  refine returnsInHanded_of_row (C := Tryz.checked) (s := Rows.OpenSpec.upto Rows.deltaKeepsSpec) own started (by kernel_rfl) Tryz.func4
    (witness_row_at (enc := enc) (C := Tryz.checked) false (laidWorld os) #[.slice none 0 0, .int .u32 0, .int .u32 0] rfl (by kernel_rfl) (by kernel_rfl) (by kernel_rfl)
      (OpenSpec.preRow_of_cond 8 hx (by kernel_rfl) (fun k hk => by cases hk; kernel_rfl) (by kernel_rfl) (laid_met os))) ?_
  intro W base args ds gs before hval hW _ hk hsz hL _ _
  exact contract H enc W base args ds gs before hval hW hsz (hk _ rfl) hL

theorem saidUpto : Rows.DeltaKeepsUptoSaid :=
  OpenClaim.holds_of_cond 4 Tryz.f4 rfl rfl rfl rfl rfl rfl rfl ⟨rfl, rfl, rfl, rfl, rfl⟩ rfl rfl rfl rfl rfl (by kernel_rfl) Tryz.func4 (by kernel_rfl)
    (of_decide_eq_true (by kernel_rfl)) (by unfold Func.isWrapper; first | (rw [if_pos (by decide +kernel)]; kernel_rfl) | (rw [if_neg (by decide +kernel)]; exact ⟨rfl, rfl⟩))
    (fun os started H enc _ F => by rw [OpenClaim.pre_eq_preRow]; exact liftedUpto os started H enc F)

theorem plain (f : FuncId) (fn : Func) (hf : Tryz.pinned.checked.prog.funcNamed "fulcrum/fulcrumlaw05.DeltaKeeps" = some f) (hfn : Tryz.pinned.checked.prog.funcs[f]? = some fn) :
    false = Tryz.pinned.checked.prog.looks [] ∧ ∀ (j : Nat) t, fn.params[j]? = some t → Tryz.pinned.checked.prog.wantsStandIn t = false := by
  obtain rfl : f = 4 := Option.some.inj ((show Tryz.prog.funcNamed "fulcrum/fulcrumlaw05.DeltaKeeps" = some 4 by kernel_rfl).symm.trans hf) |>.symm
  obtain rfl : fn = Tryz.f4 := (Option.some.inj (Tryz.func4.symm.trans hfn)).symm
  refine ⟨by kernel_rfl, fun j t ht => ?_⟩
  rw [Tryz.params4] at ht
  have hm := Array.mem_of_getElem? ht
  simp only [List.mem_toArray, List.mem_cons, List.not_mem_nil, or_false] at hm
  rcases hm with rfl | rfl | rfl
  · exact (show Tryz.prog.wantsStandIn 22 = false by kernel_rfl)
  · exact (show Tryz.prog.wantsStandIn 37 = false by kernel_rfl)
  · exact (show Tryz.prog.wantsStandIn 37 = false by kernel_rfl)

theorem cardUpto : Rows.DeltaKeepsUptoCardSaid :=
  Claim7.holds_tied_plain_at .later [] _ _ _ _ saidUpto (fun _ h => by cases h) (by kernel_rfl) (fun _ h => by cases h) deltaKeepsUpto_row_tie rfl ⟨rfl, rfl⟩ (by kernel_rfl) rfl plain (by kernel_rfl)
end Go.Proofs.YtnifelfecildmaaGreatDoor.deltaKeeps
namespace Go.Proofs.YtnifelfecildmaaGreatDoor
theorem deltaKeeps_holds : Rows.DeltaKeepsUptoCardSaid := deltaKeeps.cardUpto
#print axioms deltaKeeps_holds
end Go.Proofs.YtnifelfecildmaaGreatDoor
