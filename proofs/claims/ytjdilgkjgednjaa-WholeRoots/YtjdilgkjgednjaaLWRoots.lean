/-
  WholeRoots: the root's square is not above, that of the next number is.
-/
import Derived.Test.YtjdilgkjgednjaaWR3
import Derived.Test.YtjdilgkjgednjaaWS3
import Derived.Test.YtjdilgkjgednjaaWI5
import Derived.Test.YtjdilgkjgednjaaWI6
import Derived.Test.YtjdilgkjgednjaaWI3
import Derived.Test.YtjdilgkjgednjaaOpenI
namespace Go.Proofs.Ytjdilgkjgednjaa.wholeRoots
open Go.ChangeShapes Go.WideShapes Go.ChangeAt Go.RowKit Go.Proofs.Ytjdilgkjgednjaa
set_option linter.unusedVariables false

theorem root_ln' {X R n m : Nat} (h : isq X R) (hX : X < BB ^ n) (hm : n ≤ m + m) : ln R ≤ m := by
  rcases Nat.lt_or_ge R (BB ^ m) with h1 | h1
  · exact ln_le_of_lt h1
  · have h2 := Nat.mul_le_mul h1 h1
    rw [← Nat.pow_add] at h2
    have h3 : BB ^ n ≤ BB ^ (m + m) := pow_mono hm
    have h4 := h.1
    omega
theorem root_ln {X R n : Nat} (h : isq X R) (hX : X < BB ^ n) (hn : n ≤ 35184372088832) : ln R ≤ 17592186044416 := root_ln' h hX (by omega)
theorem stored1 {w W : World} {c : Nat} {u0 u1 : Value} {z0 : Bool} {a1 : Option Addr} {n1 k1 : Nat} {p1 : Option Addr} {X1 l1 : Nat}
    (h0 : w.cell? ⟨c, 0, none⟩ = some (.bool z0)) (h1 : w.cell? ⟨c, 1, none⟩ = some (.slice a1 n1 k1)) (hBW : Below W.heap.size W w) (ge : W.heap.size ≤ c) (s1 : New W w p1 X1 l1) :
    ((w.setCell ⟨c, 0, none⟩ u0).setCell ⟨c, 1, none⟩ u1).cell? ⟨c, 0, none⟩ = some u0 ∧ ((w.setCell ⟨c, 0, none⟩ u0).setCell ⟨c, 1, none⟩ u1).cell? ⟨c, 1, none⟩ = some u1 ∧
    Below W.heap.size W ((w.setCell ⟨c, 0, none⟩ u0).setCell ⟨c, 1, none⟩ u1) ∧ New W ((w.setCell ⟨c, 0, none⟩ u0).setCell ⟨c, 1, none⟩ u1) p1 X1 l1 := by
  have e := set2_same (u := u0) (v := u1) h0 h1
  exact ⟨e.1, e.2, bsetW (bsetW hBW ge) ge, s1.set2 ge h0 h1⟩
theorem sq_le {R X : Nat} (h : R * R ≤ X) : (R : Int) * (R : Int) - (X : Int) ≤ 0 := by
  rw [← Int.natCast_mul]; omega
theorem sq_gt {R X : Nat} (h : X < (R + 1) * (R + 1)) : 0 < ((R : Int) + 1) * ((R : Int) + 1) - (X : Int) := by
  have e : ((R : Int) + 1) * ((R : Int) + 1) = (((R + 1) * (R + 1) : Nat) : Int) := by rw [Int.natCast_mul]; rfl
  rw [e]; omega
theorem sgn_le0 {x : Int} (h : x ≤ 0) : sgn x ≤ 0 := by
  rcases Int.lt_trichotomy x 0 with h1 | h1 | h1
  · rw [sgn_neg h1]; omega
  · rw [h1, sgn_zero]; omega
  · omega
theorem pos_of {s : Bool} {X : Nat} (h : ¬ sgn (sg s X) < 0) : sg s X = (X : Int) := by
  cases s
  · rfl
  · by_cases hX : X = 0
    · subst hX; rfl
    · rw [sgn_sg hX] at h
      exact absurd (by decide) h
set_option maxHeartbeats 8000000 in
set_option maxRecDepth 100000 in
theorem neg (s0 : Bool) (a0 : Option Addr) (len0 cap0 X0 : Nat) (w : World) (hS0 : Seg w a0 X0 len0) (hc0 : len0 ≤ cap0) (hb0 : len0 ≤ 35184372087808) (C : Int) (hC : sgn (sg s0 X0) = C) (h0 : C < 0) : Calls Try.prog 6 #[.agg #[.bool s0, .slice a0 len0 cap0]] w fun e w' => e = .returned (.bool true) ∧ Below w.heap.size w w' := by
  have P0 := hide' (fun w' h => wRoot_neg s0 a0 len0 cap0 X0 w' hc0 hb0 h C hC h0)
  have S0' := fun w' h => wSign_is s0 a0 len0 cap0 X0 _ w' hc0 (by omega) h rfl
  rw [hC] at S0'
  have S0 := hide' S0'
  clear S0' hC
  go_enter Try.func6, Try.ntmps6
  go_wp2_with fail
  obtain ⟨W, hW⟩ : ∃ W, (w.alloc (.cells #[.bool s0, .slice a0 len0 cap0] 25)) = W := ⟨_, rfl⟩
  have q00 : W.cell? ⟨w.heap.size, 0, none⟩ = some (.bool s0) := by subst hW; go_simp
  have q01 : W.cell? ⟨w.heap.size, 1, none⟩ = some (.slice a0 len0 cap0) := by subst hW; go_simp
  have hB : Below w.heap.size w W := by subst hW; exact ((Below.refl _ _).alloc (by (try simp only [World.size_alloc]); omega) _)
  have hz : W.heap.size = w.heap.size + 1 := by subst hW; simp only [World.size_alloc]
  rw [hW]
  clear hW
  have hBW : Below W.heap.size W W := Below.refl _ _
  refine (P0.out _ (sb hS0 hB hBW)).mono ?_
  rintro e w41 ⟨rfl, b41⟩
  replace hBW := hBW.trans (b41.mono hBW.size)
  replace q00 := below_cell b41 q00
  replace q01 := below_cell b41 q01
  have hsz41 := hBW.size
  have l4100 : ((w41.alloc (.cells #[.bool false, .slice none 0 0] 25))).cell? ⟨w41.heap.size, 0, none⟩ = some (.bool false) := by go_simp
  have l4101 : ((w41.alloc (.cells #[.bool false, .slice none 0 0] 25))).cell? ⟨w41.heap.size, 1, none⟩ = some (.slice none 0 0) := by go_simp
  have cb41 : Below w41.heap.size w41 ((w41.alloc (.cells #[.bool false, .slice none 0 0] 25))) := ((Below.refl _ _).alloc (by (try simp only [World.size_alloc]); omega) _)
  replace hBW := hBW.trans (cb41.mono hBW.size)
  replace q00 := below_cell cb41 q00
  replace q01 := below_cell cb41 q01
  have hL410 : Row ((w41.alloc (.cells #[.bool false, .slice none 0 0] 25))) (w41.heap.size) := by
    have := row_new (w41) #[.bool false, .slice none 0 0] 25
    try simp only [World.size_alloc] at this
    exact this
  go_wp2_with fail
  generalize (w41.alloc (.cells #[.bool false, .slice none 0 0] 25)) = w41x at q00 q01 l4100 l4101 hL410 hBW cb41 ⊢
  clear cb41
  refine (S0.out _ (sb hS0 hB hBW)).mono ?_
  rintro e w42 ⟨rfl, b42⟩
  replace hBW := hBW.trans (b42.mono hBW.size)
  replace q00 := below_cell b42 q00
  replace q01 := below_cell b42 q01
  replace l4100 := below_cell b42 l4100
  replace l4101 := below_cell b42 l4101
  replace hL410 := below_row b42 hL410
  go_wp2_with fail
  refine (awake_is _).mono ?_
  rintro e w43 ⟨rfl, b43⟩
  replace hBW := hBW.trans (b43.mono hBW.size)
  replace q00 := below_cell b43 q00
  replace q01 := below_cell b43 q01
  replace l4100 := below_cell b43 l4100
  replace l4101 := below_cell b43 l4101
  replace hL410 := below_row b43 hL410
  go_wp2
  go_ret
  exact ⟨rfl, hB.trans (hBW.mono hB.size)⟩

set_option maxHeartbeats 8000000 in
set_option maxRecDepth 100000 in
theorem pos (s0 : Bool) (a0 : Option Addr) (len0 cap0 X0 : Nat) (w : World) (hS0 : Seg w a0 X0 len0) (hc0 : len0 ≤ cap0) (hb0 : len0 ≤ 35184372087808) (C : Int) (hC : sgn (sg s0 X0) = C) (h0 : ¬ (C < 0)) : Calls Try.prog 6 #[.agg #[.bool s0, .slice a0 len0 cap0]] w fun e w' => e = .returned (.bool true) ∧ Below w.heap.size w w' := by
  have hpos := pos_of (by rw [hC]; exact h0)
  obtain ⟨R, hR⟩ := isq_ex X0
  have lX := ln_le_of_lt hS0.1
  have hRX : R ≤ X0 := by
    have h1 := hR.1
    rcases Nat.eq_zero_or_pos R with h | h
    · omega
    · have := Nat.le_mul_of_pos_left R h; omega
  have lR : ln R ≤ 35184372087808 := Nat.le_trans (ln_mono hRX) (by omega)
  have P0' := fun w' h => wRoot_pos s0 a0 len0 cap0 X0 w' hc0 hb0 h C hC h0 R hR lR
  have S0' := fun w' h => wSign_is s0 a0 len0 cap0 X0 _ w' hc0 (by omega) h rfl
  rw [hC] at S0'
  obtain ⟨Zr, hZr⟩ : ∃ Z : Int, (R : Int) = Z := ⟨_, rfl⟩
  have ar : am Zr = R := by rw [← hZr]; rfl
  have nr : ng Zr = false := by rw [← hZr]; unfold ng; rw [decide_eq_false_iff_not]; omega
  rw [← nr, ← ar] at P0'
  obtain ⟨Zn, hZn⟩ : ∃ Z : Int, Zr + 1 = Z := ⟨_, rfl⟩
  obtain ⟨Zq, hZq⟩ : ∃ Z : Int, Zr * Zr = Z := ⟨_, rfl⟩
  obtain ⟨Zm, hZm⟩ : ∃ Z : Int, Zn * Zn = Z := ⟨_, rfl⟩
  have lr : ln (am Zr) ≤ 17592186044416 := by
    rw [ar]
    exact root_ln hR hS0.1 (by omega)
  have lnn : ln (am Zn) ≤ 17592186044417 := by
    have e : am Zn = R + 1 := by rw [← hZn, ← hZr]; unfold am; omega
    rw [e]
    rw [ar] at lr
    exact ln_sum (Nat.lt_of_lt_of_le (ln_lt R) (pow_mono lr)) (show 1 < BB ^ 1 by rw [Nat.pow_one, BB_eq]; omega) (by omega) (by omega)
  have lq : ln (am Zq) ≤ 35184372088834 := by
    have e : am Zq = am Zr * am Zr := by rw [← hZq]; unfold am; exact Int.natAbs_mul _ _
    rw [e]
    exact Nat.le_trans (ln_prod (ln_lt _) (ln_lt _)) (by omega)
  have lm : ln (am Zm) ≤ 35184372088834 := by
    have e : am Zm = am Zn * am Zn := by rw [← hZm]; unfold am; exact Int.natAbs_mul _ _
    rw [e]
    exact Nat.le_trans (ln_prod (ln_lt _) (ln_lt _)) (by omega)
  have e1 : Hid (sg (ng Zr) (am Zr) + sg (ng 1) (am 1) = Zn) := by show _ = _; rw [sg_na, sg_na]; exact hZn
  have e2 : Hid (sg (ng Zr) (am Zr) * sg (ng Zr) (am Zr) = Zq) := by show _ = _; rw [sg_na]; exact hZq
  have e3 : Hid (sg (ng Zn) (am Zn) * sg (ng Zn) (am Zn) = Zm) := by show _ = _; rw [sg_na]; exact hZm
  obtain ⟨c1, hc1, hc1l⟩ : ∃ c, sgn (Zq - sg s0 X0) = c ∧ c ≤ 0 := ⟨_, rfl, sgn_le0 (by rw [hpos, ← hZq, ← hZr]; exact sq_le hR.1)⟩
  have hc2 : sgn (Zm - sg s0 X0) = 1 := sgn_pos (by rw [hpos, ← hZm, ← hZn, ← hZr]; exact sq_gt hR.2)
  obtain ⟨c3, hc3, hc3l⟩ : ∃ c, sgn Zr = c ∧ 0 ≤ c := ⟨_, rfl, by rw [← hZr]; rcases Nat.eq_zero_or_pos R with h | h; (rw [h]; decide); (rw [sgn_pos (by omega)]; decide)⟩
  have K1 : ∀ w' ao, Seg w' ao (am Zq) (ln (am Zq)) → Seg w' a0 X0 len0 → Calls Try.prog 22 #[.agg #[.bool (ng Zq), .slice ao (ln (am Zq)) (ln (am Zq))], .agg #[.bool s0, .slice a0 len0 cap0]] w' fun e w'' => e = .returned (.int .i64 c1) ∧ Below w'.heap.size w' w'' := fun w' ao h1 h2 => by have := wCmp_is (ng Zq) ao _ _ (am Zq) s0 a0 len0 cap0 X0 w' (Nat.le_refl _) (by omega) h1 hc0 (by omega) h2; rwa [sg_na, hc1] at this
  have K2 : ∀ w' ao, Seg w' ao (am Zm) (ln (am Zm)) → Seg w' a0 X0 len0 → Calls Try.prog 22 #[.agg #[.bool (ng Zm), .slice ao (ln (am Zm)) (ln (am Zm))], .agg #[.bool s0, .slice a0 len0 cap0]] w' fun e w'' => e = .returned (.int .i64 1) ∧ Below w'.heap.size w' w'' := fun w' ao h1 h2 => by have := wCmp_is (ng Zm) ao _ _ (am Zm) s0 a0 len0 cap0 X0 w' (Nat.le_refl _) (by omega) h1 hc0 (by omega) h2; rwa [sg_na, hc2] at this
  have K3 : ∀ w' ao, Seg w' ao (am Zr) (ln (am Zr)) → Calls Try.prog 20 #[.agg #[.bool (ng Zr), .slice ao (ln (am Zr)) (ln (am Zr))]] w' fun e w'' => e = .returned (.int .i64 c3) ∧ Below w'.heap.size w' w'' := fun w' ao h1 => by have := wSign_is (ng Zr) ao _ _ (am Zr) _ w' (Nat.le_refl _) (by omega) h1 rfl; rwa [sg_na, hc3] at this
  have l1 : ln (am 1) ≤ 2 := ln_am_small (z := 1) (by omega) (by omega)
  have P0 := hide' P0'
  have S0 := hide' S0'
  have HK1 := hide' K1
  have HK2 := hide' K2
  have HK3 := hide' K3
  clear P0' S0' K1 K2 K3 hC hpos hR hRX lR hZr ar nr hZn hZq hZm hc1 hc2 hc3 lX
  go_enter Try.func6, Try.ntmps6
  go_wp2_with fail
  obtain ⟨W, hW⟩ : ∃ W, (w.alloc (.cells #[.bool s0, .slice a0 len0 cap0] 25)) = W := ⟨_, rfl⟩
  have q00 : W.cell? ⟨w.heap.size, 0, none⟩ = some (.bool s0) := by subst hW; go_simp
  have q01 : W.cell? ⟨w.heap.size, 1, none⟩ = some (.slice a0 len0 cap0) := by subst hW; go_simp
  have hB : Below w.heap.size w W := by subst hW; exact ((Below.refl _ _).alloc (by (try simp only [World.size_alloc]); omega) _)
  have hz : W.heap.size = w.heap.size + 1 := by subst hW; simp only [World.size_alloc]
  rw [hW]
  clear hW
  have hBW : Below W.heap.size W W := Below.refl _ _
  refine (P0.out _ (sb hS0 hB hBW)).mono ?_
  rintro e w41 ⟨a41, rfl, h41⟩
  have b41 := h41.below
  replace h41 := h41.back hBW
  replace hBW := hBW.trans (b41.mono hBW.size)
  replace q00 := below_cell b41 q00
  replace q01 := below_cell b41 q01
  have hsz41 := hBW.size
  have l4100 : ((w41.alloc (.cells #[.bool (ng Zr), .slice a41 (ln (am Zr)) (ln (am Zr))] 25))).cell? ⟨w41.heap.size, 0, none⟩ = some (.bool (ng Zr)) := by go_simp
  have l4101 : ((w41.alloc (.cells #[.bool (ng Zr), .slice a41 (ln (am Zr)) (ln (am Zr))] 25))).cell? ⟨w41.heap.size, 1, none⟩ = some (.slice a41 (ln (am Zr)) (ln (am Zr))) := by go_simp
  have cb41 : Below w41.heap.size w41 ((w41.alloc (.cells #[.bool (ng Zr), .slice a41 (ln (am Zr)) (ln (am Zr))] 25))) := ((Below.refl _ _).alloc (by (try simp only [World.size_alloc]); omega) _)
  replace hBW := hBW.trans (cb41.mono hBW.size)
  replace q00 := below_cell cb41 q00
  replace q01 := below_cell cb41 q01
  replace h41 := h41.later cb41
  have hL410 : Row ((w41.alloc (.cells #[.bool (ng Zr), .slice a41 (ln (am Zr)) (ln (am Zr))] 25))) (w41.heap.size) := by
    have := row_new (w41) #[.bool (ng Zr), .slice a41 (ln (am Zr)) (ln (am Zr))] 25
    try simp only [World.size_alloc] at this
    exact this
  go_wp2_with fail
  generalize (w41.alloc (.cells #[.bool (ng Zr), .slice a41 (ln (am Zr)) (ln (am Zr))] 25)) = w41x at q00 q01 l4100 l4101 hL410 h41 hBW cb41 ⊢
  clear cb41
  refine (S0.out _ (sb hS0 hB hBW)).mono ?_
  rintro e w42 ⟨rfl, b42⟩
  replace hBW := hBW.trans (b42.mono hBW.size)
  replace q00 := below_cell b42 q00
  replace q01 := below_cell b42 q01
  replace l4100 := below_cell b42 l4100
  replace l4101 := below_cell b42 l4101
  replace hL410 := below_row b42 hL410
  replace h41 := h41.later b42
  go_wp2_with fail
  have hsB := hBW.size
  replace hB := hB.trans (hBW.mono hB.size)
  have hltBhL410 := hL410.lt
  clear hBW
  have hBW : Below w42.heap.size w42 w42 := Below.refl _ _
  have kh41 := h41.seg
  clear h41
  clear hz
  go_cut [5] from 19 to 21 (fun s5 wx => ∃ c aq, s5 = .pointer (some ⟨c, 0, none⟩) ∧ w42.heap.size ≤ c ∧ wx.cell? ⟨c, 0, none⟩ = some (.bool (ng Zn)) ∧ wx.cell? ⟨c, 1, none⟩ = some (.slice aq (ln (am Zn)) (ln (am Zn))) ∧ New w42 wx aq (am Zn) (ln (am Zn)) ∧ Below w42.heap.size w42 wx)
  case first =>
    have Qq00 := q00
    have Qq01 := q01
    have Ql4100 := l4100
    have Ql4101 := l4101
    clear q00 q01 l4100 l4101 hL410
    replace hBW := hBW.drew
    refine wp_region_held_drew (S := (fun w' => w'.cell? ⟨w.heap.size, 0, none⟩ = some (.bool s0) ∧ w'.cell? ⟨w.heap.size, 1, none⟩ = some (.slice a0 len0 cap0) ∧ w'.cell? ⟨w41.heap.size, 0, none⟩ = some (.bool (ng Zr)) ∧ w'.cell? ⟨w41.heap.size, 1, none⟩ = some (.slice a41 (ln (am Zr)) (ln (am Zr))) ∧ Below w.heap.size w w')) (by kernel_rfl) (kp4 (W := w42) hBW ⟨Qq00, Qq01, Ql4100, Ql4101, hB⟩) (fun hHeld => ?_)
    replace kh41 := kh41.drew
    generalize w42.drew = w0 at hBW kh41 hHeld ⊢
    refine take' 0 (v := ?_) rfl (by kernel_rfl) (by kernel_rfl) (by kernel_rfl) (fun _ _ _ h => h) (Or.inl ⟨by rfl, ?_⟩) (by assumption) ?_
    rotate_left
    · intro w9 hSw
      go_simp
      first | done | with_reducible rfl
    simp only [Act.put, List.setIfInBounds_toArray, List.set_cons_zero, List.set_cons_succ]
    refine wpAnyH_ready (rs := [1, 3]) (by kernel_rfl) (by simp) ?_
    refine consT rfl (fun K hK => ?_) ?_
    · skip
      go_simp
      refine Calls.mono (one_is _) ?_
      rintro e w1 ⟨po, rfl, hm1⟩
      have bb := hm1.below
      have so := hm1.seg
      clear hm1
      replace hBW := hBW.trans (bb.mono hBW.size)
      replace kh41 := kh41.later bb
      clear bb
      go_wp2_with fail
      refine hK.out _ _ (kp4 (W := w42) hBW ⟨Qq00, Qq01, Ql4100, Ql4101, hB⟩) ?_
      clear hHeld
      intro hHeld
      clear hK K
      try simp only [Act.put, List.setIfInBounds_toArray, List.set_cons_zero, List.set_cons_succ]
      refine wpAnyH_ready (rs := [2, 3]) (by kernel_rfl) (by simp) ?_
      refine consT rfl (fun K hK => ?_) ?_
      · skip
        go_simp
        refine Calls.mono (wAdd_is (ng Zr) a41 (ln (am Zr)) (ln (am Zr)) (am Zr) (ng 1) po (ln (am 1)) (ln (am 1)) (am 1) Zn _ (Nat.le_refl _) (by omega) kh41 (Nat.le_refl _) (by omega) so e1.out) ?_
        rintro e w1_2 ⟨aq, rfl, hF⟩
        have bb := hF.below
        replace hF := hF.back hBW
        replace hBW := hBW.trans (bb.mono hBW.size)
        replace kh41 := kh41.later bb
        replace so := so.later bb
        clear bb
        go_wp2_with fail
        refine hK.out _ _ (kp4 (W := w42) hBW ⟨Qq00, Qq01, Ql4100, Ql4101, hB⟩) ?_
        clear hHeld
        intro hHeld
        clear hK K
        try simp only [Act.put, List.setIfInBounds_toArray, List.set_cons_zero, List.set_cons_succ]
        refine wpAnyH_ready (rs := [3]) (by kernel_rfl) (by simp) ?_
        refine consT rfl (fun K hK => ?_) ?_
        · skip
          go_simp
          have bb := below_alloc (w := w1_2) (.cells #[.bool false, .slice none 0 0] 25)
          have lcge := hBW.size
          replace hBW := hBW.trans (bb.mono hBW.size)
          replace kh41 := kh41.later bb
          replace so := so.later bb
          replace hF := hF.later bb
          clear bb
          have lc0 : (w1_2.alloc (.cells #[.bool false, .slice none 0 0] 25)).cell? ⟨w1_2.heap.size, 0, none⟩ = some (.bool false) := by go_simp
          have lc1 : (w1_2.alloc (.cells #[.bool false, .slice none 0 0] 25)).cell? ⟨w1_2.heap.size, 1, none⟩ = some (.slice none 0 0) := by go_simp
          have lcR : Row (w1_2.alloc (.cells #[.bool false, .slice none 0 0] 25)) w1_2.heap.size := row_new w1_2 _ 25
          clear hHeld
          generalize (w1_2.alloc (.cells #[.bool false, .slice none 0 0] 25)) = w1_2_3 at hBW lc0 lc1 lcR kh41 so hF ⊢
          generalize w1_2.heap.size = c at lcge lc0 lc1 lcR ⊢
          refine hK.out _ _ (kp4 (W := w42) hBW ⟨Qq00, Qq01, Ql4100, Ql4101, hB⟩) ?_
          intro hHeld
          clear hK K
          try simp only [Act.put, List.setIfInBounds_toArray, List.set_cons_zero, List.set_cons_succ]
          refine wpAnyH_ready (rs := [4]) (by kernel_rfl) (by simp) ?_
          refine cons' rfl (fun K hK => ?_)
          have lf := fun o => lcR.frozen o
          have X := stored1 (u0 := .bool (ng Zn)) (u1 := .slice aq (ln (am Zn)) (ln (am Zn))) lc0 lc1 hBW lcge hF
          go_simp
          clear lc0 lc1 lf lcR hHeld hBW hF
          clear kh41 so
          generalize ((w1_2_3.setCell ⟨c, 0, none⟩ (.bool (ng Zn))).setCell ⟨c, 1, none⟩ (.slice aq (ln (am Zn)) (ln (am Zn)))) = wl1 at X ⊢
          obtain ⟨lc0, lc1, hBW, hF⟩ := X
          refine hK.out _ _ (kp4 (W := w42) hBW ⟨Qq00, Qq01, Ql4100, Ql4101, hB⟩) ?_
          intro hHeld
          clear hK K
          try simp only [Act.put, List.setIfInBounds_toArray, List.set_cons_zero, List.set_cons_succ]
          refine wpAnyH_done (by kernel_rfl) ?_ _
          go_wp2_with fail
          go_meet
          exact ⟨c, aq, rfl, lcge, lc0, lc1, hF, hBW⟩
        exact AllReadyH.nil
      refine consT rfl (fun K hK => ?_) ?_
      · skip
        go_simp
        have bb := below_alloc (w := w1) (.cells #[.bool false, .slice none 0 0] 25)
        have lcge := hBW.size
        replace hBW := hBW.trans (bb.mono hBW.size)
        replace kh41 := kh41.later bb
        replace so := so.later bb
        clear bb
        have lc0 : (w1.alloc (.cells #[.bool false, .slice none 0 0] 25)).cell? ⟨w1.heap.size, 0, none⟩ = some (.bool false) := by go_simp
        have lc1 : (w1.alloc (.cells #[.bool false, .slice none 0 0] 25)).cell? ⟨w1.heap.size, 1, none⟩ = some (.slice none 0 0) := by go_simp
        have lcR : Row (w1.alloc (.cells #[.bool false, .slice none 0 0] 25)) w1.heap.size := row_new w1 _ 25
        clear hHeld
        generalize (w1.alloc (.cells #[.bool false, .slice none 0 0] 25)) = w1_3 at hBW lc0 lc1 lcR kh41 so ⊢
        generalize w1.heap.size = c at lcge lc0 lc1 lcR ⊢
        refine hK.out _ _ (kp4 (W := w42) hBW ⟨Qq00, Qq01, Ql4100, Ql4101, hB⟩) ?_
        intro hHeld
        clear hK K
        try simp only [Act.put, List.setIfInBounds_toArray, List.set_cons_zero, List.set_cons_succ]
        refine wpAnyH_ready (rs := [2]) (by kernel_rfl) (by simp) ?_
        refine consT rfl (fun K hK => ?_) ?_
        · skip
          go_simp
          refine Calls.mono (wAdd_is (ng Zr) a41 (ln (am Zr)) (ln (am Zr)) (am Zr) (ng 1) po (ln (am 1)) (ln (am 1)) (am 1) Zn _ (Nat.le_refl _) (by omega) kh41 (Nat.le_refl _) (by omega) so e1.out) ?_
          rintro e w1_3_2 ⟨aq, rfl, hF⟩
          have bb := hF.below
          replace hF := hF.back hBW
          replace hBW := hBW.trans (bb.mono hBW.size)
          replace kh41 := kh41.later bb
          replace so := so.later bb
          replace lc0 := below_cell bb lc0
          replace lc1 := below_cell bb lc1
          replace lcR := below_row bb lcR
          clear bb
          go_wp2_with fail
          refine hK.out _ _ (kp4 (W := w42) hBW ⟨Qq00, Qq01, Ql4100, Ql4101, hB⟩) ?_
          clear hHeld
          intro hHeld
          clear hK K
          try simp only [Act.put, List.setIfInBounds_toArray, List.set_cons_zero, List.set_cons_succ]
          refine wpAnyH_ready (rs := [4]) (by kernel_rfl) (by simp) ?_
          refine cons' rfl (fun K hK => ?_)
          have lf := fun o => lcR.frozen o
          have X := stored1 (u0 := .bool (ng Zn)) (u1 := .slice aq (ln (am Zn)) (ln (am Zn))) lc0 lc1 hBW lcge hF
          go_simp
          clear lc0 lc1 lf lcR hHeld hBW hF
          clear kh41 so
          generalize ((w1_3_2.setCell ⟨c, 0, none⟩ (.bool (ng Zn))).setCell ⟨c, 1, none⟩ (.slice aq (ln (am Zn)) (ln (am Zn)))) = wl1 at X ⊢
          obtain ⟨lc0, lc1, hBW, hF⟩ := X
          refine hK.out _ _ (kp4 (W := w42) hBW ⟨Qq00, Qq01, Ql4100, Ql4101, hB⟩) ?_
          intro hHeld
          clear hK K
          try simp only [Act.put, List.setIfInBounds_toArray, List.set_cons_zero, List.set_cons_succ]
          refine wpAnyH_done (by kernel_rfl) ?_ _
          go_wp2_with fail
          go_meet
          exact ⟨c, aq, rfl, lcge, lc0, lc1, hF, hBW⟩
        exact AllReadyH.nil
      exact AllReadyH.nil
    refine consT rfl (fun K hK => ?_) ?_
    · skip
      go_simp
      have bb := below_alloc (w := w0) (.cells #[.bool false, .slice none 0 0] 25)
      have lcge := hBW.size
      replace hBW := hBW.trans (bb.mono hBW.size)
      replace kh41 := kh41.later bb
      clear bb
      have lc0 : (w0.alloc (.cells #[.bool false, .slice none 0 0] 25)).cell? ⟨w0.heap.size, 0, none⟩ = some (.bool false) := by go_simp
      have lc1 : (w0.alloc (.cells #[.bool false, .slice none 0 0] 25)).cell? ⟨w0.heap.size, 1, none⟩ = some (.slice none 0 0) := by go_simp
      have lcR : Row (w0.alloc (.cells #[.bool false, .slice none 0 0] 25)) w0.heap.size := row_new w0 _ 25
      clear hHeld
      generalize (w0.alloc (.cells #[.bool false, .slice none 0 0] 25)) = w3 at hBW lc0 lc1 lcR kh41 ⊢
      generalize w0.heap.size = c at lcge lc0 lc1 lcR ⊢
      refine hK.out _ _ (kp4 (W := w42) hBW ⟨Qq00, Qq01, Ql4100, Ql4101, hB⟩) ?_
      intro hHeld
      clear hK K
      try simp only [Act.put, List.setIfInBounds_toArray, List.set_cons_zero, List.set_cons_succ]
      refine wpAnyH_ready (rs := [1]) (by kernel_rfl) (by simp) ?_
      refine consT rfl (fun K hK => ?_) ?_
      · skip
        go_simp
        refine Calls.mono (one_is _) ?_
        rintro e w3_1 ⟨po, rfl, hm1⟩
        have bb := hm1.below
        have so := hm1.seg
        clear hm1
        replace hBW := hBW.trans (bb.mono hBW.size)
        replace kh41 := kh41.later bb
        replace lc0 := below_cell bb lc0
        replace lc1 := below_cell bb lc1
        replace lcR := below_row bb lcR
        clear bb
        go_wp2_with fail
        refine hK.out _ _ (kp4 (W := w42) hBW ⟨Qq00, Qq01, Ql4100, Ql4101, hB⟩) ?_
        clear hHeld
        intro hHeld
        clear hK K
        try simp only [Act.put, List.setIfInBounds_toArray, List.set_cons_zero, List.set_cons_succ]
        refine wpAnyH_ready (rs := [2]) (by kernel_rfl) (by simp) ?_
        refine consT rfl (fun K hK => ?_) ?_
        · skip
          go_simp
          refine Calls.mono (wAdd_is (ng Zr) a41 (ln (am Zr)) (ln (am Zr)) (am Zr) (ng 1) po (ln (am 1)) (ln (am 1)) (am 1) Zn _ (Nat.le_refl _) (by omega) kh41 (Nat.le_refl _) (by omega) so e1.out) ?_
          rintro e w3_1_2 ⟨aq, rfl, hF⟩
          have bb := hF.below
          replace hF := hF.back hBW
          replace hBW := hBW.trans (bb.mono hBW.size)
          replace kh41 := kh41.later bb
          replace so := so.later bb
          replace lc0 := below_cell bb lc0
          replace lc1 := below_cell bb lc1
          replace lcR := below_row bb lcR
          clear bb
          go_wp2_with fail
          refine hK.out _ _ (kp4 (W := w42) hBW ⟨Qq00, Qq01, Ql4100, Ql4101, hB⟩) ?_
          clear hHeld
          intro hHeld
          clear hK K
          try simp only [Act.put, List.setIfInBounds_toArray, List.set_cons_zero, List.set_cons_succ]
          refine wpAnyH_ready (rs := [4]) (by kernel_rfl) (by simp) ?_
          refine cons' rfl (fun K hK => ?_)
          have lf := fun o => lcR.frozen o
          have X := stored1 (u0 := .bool (ng Zn)) (u1 := .slice aq (ln (am Zn)) (ln (am Zn))) lc0 lc1 hBW lcge hF
          go_simp
          clear lc0 lc1 lf lcR hHeld hBW hF
          clear kh41 so
          generalize ((w3_1_2.setCell ⟨c, 0, none⟩ (.bool (ng Zn))).setCell ⟨c, 1, none⟩ (.slice aq (ln (am Zn)) (ln (am Zn)))) = wl1 at X ⊢
          obtain ⟨lc0, lc1, hBW, hF⟩ := X
          refine hK.out _ _ (kp4 (W := w42) hBW ⟨Qq00, Qq01, Ql4100, Ql4101, hB⟩) ?_
          intro hHeld
          clear hK K
          try simp only [Act.put, List.setIfInBounds_toArray, List.set_cons_zero, List.set_cons_succ]
          refine wpAnyH_done (by kernel_rfl) ?_ _
          go_wp2_with fail
          go_meet
          exact ⟨c, aq, rfl, lcge, lc0, lc1, hF, hBW⟩
        exact AllReadyH.nil
      exact AllReadyH.nil
    exact AllReadyH.nil
  case rest =>
  clear hBW
  obtain ⟨c, aq, rfl, hge, lc0, lc1, hF, hBW⟩ := hcut
  replace q00 := below_cell hBW q00
  replace q01 := below_cell hBW q01
  replace l4100 := below_cell hBW l4100
  replace l4101 := below_cell hBW l4101
  replace hL410 := below_row hBW hL410
  replace kh41 := kh41.later hBW
  go_wp2_with fail
  replace hBW := hBW.drew
  replace kh41 := kh41.drew
  replace hF := hF.drew
  first
    | go_region_held3 (fun w' => w'.cell? ⟨w.heap.size, 0, none⟩ = some (.bool s0) ∧ w'.cell? ⟨w.heap.size, 1, none⟩ = some (.slice a0 len0 cap0) ∧ w'.cell? ⟨w41.heap.size, 0, none⟩ = some (.bool (ng Zr)) ∧ w'.cell? ⟨w41.heap.size, 1, none⟩ = some (.slice a41 (ln (am Zr)) (ln (am Zr))) ∧ w'.cell? ⟨c, 0, none⟩ = some (.bool (ng Zn)) ∧ w'.cell? ⟨c, 1, none⟩ = some (.slice aq (ln (am Zn)) (ln (am Zn))) ∧ Below w.heap.size w w')
        (first | exact ⟨q00, q01, l4100, l4101, lc0, lc1, hB.trans (hBW.mono hB.size)⟩ | exact kp6 b51 (by assumption) | exact kp6 b52 (by assumption) | exact kp6 b53 (by assumption) | exact kp6 b54 (by assumption) | exact kp6 b55 (by assumption) | exact kp6 (below_alloc _) (by assumption))
        (first
          | (go_at_call 19; go_at_call_of 19 (Value.agg #[Value.bool (ng Zr), Value.slice a41 (ln (am Zr)) (ln (am Zr))]); go_at_call_of 19 (Value.agg #[Value.bool (ng Zr), Value.slice a41 (ln (am Zr)) (ln (am Zr))]); refine (wMul_is (ng Zr) a41 (ln (am Zr)) (ln (am Zr)) (am Zr) (ng Zr) a41 (ln (am Zr)) (ln (am Zr)) (am Zr) Zq _ (Nat.le_refl _) (by omega) kh41 (Nat.le_refl _) (by omega) kh41 e2.out).mono ?_; rintro e w51 ⟨a51, rfl, h51⟩; have b51 := h51.below; replace h51 := h51.back hBW; replace hBW := hBW.trans (b51.mono hBW.size); replace q00 := below_cell b51 q00; replace q01 := below_cell b51 q01; replace l4100 := below_cell b51 l4100; replace l4101 := below_cell b51 l4101; replace lc0 := below_cell b51 lc0; replace lc1 := below_cell b51 lc1; replace hL410 := below_row b51 hL410; replace kh41 := kh41.later b51; replace hF := hF.later b51)
          | (go_at_call 22; go_at_call_of 22 (Value.agg #[Value.bool (ng Zq), Value.slice a51 (ln (am Zq)) (ln (am Zq))]); refine (HK1.out _ a51 h51.seg (sb hS0 hB hBW)).mono ?_; rintro e w52 ⟨rfl, b52⟩; replace hBW := hBW.trans (b52.mono hBW.size); replace q00 := below_cell b52 q00; replace q01 := below_cell b52 q01; replace l4100 := below_cell b52 l4100; replace l4101 := below_cell b52 l4101; replace lc0 := below_cell b52 lc0; replace lc1 := below_cell b52 lc1; replace hL410 := below_row b52 hL410; replace kh41 := kh41.later b52; replace hF := hF.later b52; replace h51 := h51.later b52)
          | (go_at_call 19; go_at_call_of 19 (Value.agg #[Value.bool (ng Zn), Value.slice aq (ln (am Zn)) (ln (am Zn))]); go_at_call_of 19 (Value.agg #[Value.bool (ng Zn), Value.slice aq (ln (am Zn)) (ln (am Zn))]); refine (wMul_is (ng Zn) aq (ln (am Zn)) (ln (am Zn)) (am Zn) (ng Zn) aq (ln (am Zn)) (ln (am Zn)) (am Zn) Zm _ (Nat.le_refl _) (by omega) hF.seg (Nat.le_refl _) (by omega) hF.seg e3.out).mono ?_; rintro e w53 ⟨a53, rfl, h53⟩; have b53 := h53.below; replace h53 := h53.back hBW; replace hBW := hBW.trans (b53.mono hBW.size); replace q00 := below_cell b53 q00; replace q01 := below_cell b53 q01; replace l4100 := below_cell b53 l4100; replace l4101 := below_cell b53 l4101; replace lc0 := below_cell b53 lc0; replace lc1 := below_cell b53 lc1; replace hL410 := below_row b53 hL410; replace kh41 := kh41.later b53; replace hF := hF.later b53; replace h51 := h51.later b53)
          | (go_at_call 22; go_at_call_of 22 (Value.agg #[Value.bool (ng Zm), Value.slice a53 (ln (am Zm)) (ln (am Zm))]); refine (HK2.out _ a53 h53.seg (sb hS0 hB hBW)).mono ?_; rintro e w54 ⟨rfl, b54⟩; replace hBW := hBW.trans (b54.mono hBW.size); replace q00 := below_cell b54 q00; replace q01 := below_cell b54 q01; replace l4100 := below_cell b54 l4100; replace l4101 := below_cell b54 l4101; replace lc0 := below_cell b54 lc0; replace lc1 := below_cell b54 lc1; replace hL410 := below_row b54 hL410; replace kh41 := kh41.later b54; replace hF := hF.later b54; replace h51 := h51.later b54; replace h53 := h53.later b54)
          | (go_at_call 20; go_at_call_of 20 (Value.agg #[Value.bool (ng Zr), Value.slice a41 (ln (am Zr)) (ln (am Zr))]); refine (HK3.out _ a41 kh41).mono ?_; rintro e w55 ⟨rfl, b55⟩; replace hBW := hBW.trans (b55.mono hBW.size); replace q00 := below_cell b55 q00; replace q01 := below_cell b55 q01; replace l4100 := below_cell b55 l4100; replace l4101 := below_cell b55 l4101; replace lc0 := below_cell b55 lc0; replace lc1 := below_cell b55 lc1; replace hL410 := below_row b55 hL410; replace kh41 := kh41.later b55; replace hF := hF.later b55; replace h51 := h51.later b55; replace h53 := h53.later b55))
    | fail
  go_wp2
  go_ret
  exact ⟨rfl, hB.trans (hBW.mono hB.size)⟩

theorem walk (s0 : Bool) (a0 : Option Addr) (len0 cap0 X0 : Nat) (w : World) (hS0 : Seg w a0 X0 len0) (hc0 : len0 ≤ cap0) (hb0 : len0 ≤ 35184372087808) :
    Calls Try.prog 6 #[.agg #[.bool s0, .slice a0 len0 cap0]] w fun e w' => e = .returned (.bool true) ∧ Below w.heap.size w w' := by
  by_cases h : sgn (sg s0 X0) < 0
  · exact neg s0 a0 len0 cap0 X0 w hS0 hc0 hb0 _ rfl h
  · exact pos s0 a0 len0 cap0 X0 w hS0 hc0 hb0 _ rfl h

set_option maxRecDepth 100000 in
theorem contract (H : Type) (enc : TypeId × Value → H) (W : World) (base : Nat) (args : Array Value) (ds gs : List (DataW H)) (before : List MemPlace)
    (hval : ∀ (j : Nat) t v, Try.f6.params[j]? = some t → args[j]? = some v → Value.okWide Try.prog W .any base t v)
    (hW : DataW.Whole enc Try.prog Try.f6.params.toList Rows.wholeRootsSpec.vars false W args.toList ds gs before)
    (hsz : (DataW.weightsEach Try.prog (Try.f6.params.toList ++ Rows.wholeRootsSpec.plain.varTypes Try.prog) (ds ++ gs)).all (· ≤ reachBytes) = true) :
    Calls Try.prog 6 args W fun e W' => ∃ v, e = .returned v ∧ Rows.wholeRootsSpec.post enc Try.prog Try.f6 false true false false W args v W' := by
  have hW' := hW
  obtain ⟨p, q, hA0, hV, rfl, hfz, hnd⟩ := hW
  have hA : DataW.TrodAll enc Try.prog W 0 (fun _ => true) true Try.f6.params.toList args.toList ds p := hA0
  rw [Try.params6] at hA hval hsz
  obtain ⟨v0, vs0, d0, ds0, p0, q0, hargs, rfl, rfl, h0, r0⟩ := trodAll_cons hA
  obtain ⟨rfl, rfl, rfl⟩ := trodAll_nil r0
  obtain rfl : args = #[v0] := by cases args; simp_all
  obtain ⟨rfl, rfl⟩ := trodVars_none hV
  have lt0 : ∀ x ∈ p0, x.block < W.heap.size := by obtain ⟨m, hm⟩ := h0; exact DataW.trod_lt m _ _ _ hm
  obtain ⟨s0, a0, len0, cap0, X0, rfl, hS0, hc0, hb0, hu0⟩ := open_Int (hval 0 25 v0 rfl rfl) h0 (sized_at 0 hsz rfl rfl)
  clear hA0
  simp only [List.append_nil] at hW'
  refine (walk s0 a0 len0 cap0 X0 W hS0 hc0 hb0).mono fun e W' ⟨he, bel⟩ => ?_
  subst he
  exact ⟨_, rfl, _, _, _, [], _, [], hW', trodAll_mk1 (shut_bool Try.underlying4 _), (trodAll_cons_mk (Below.trod laidOut (by kernel_rfl) (of_decide_eq_true (by kernel_rfl)) h0 bel lt0) trodAll_mk0), rfl, bel.frame _, fun h => by cases h⟩

set_option maxRecDepth 100000 in
theorem lifted (os : Os) (started : os.Started) (H : Type) (enc : TypeId × Value → H) :
    ReturnsInHanded {} Try.checked os 6 .any (Rows.wholeRootsSpec.pre6 enc Try.prog Try.f6 Rows.wholeRootsRow.domain false) (Rows.wholeRootsSpec.post enc Try.prog Try.f6 false true false false) := by
  refine returnsInHanded_of_change_sized (C := Try.checked) own started (by kernel_rfl) Try.func6
    (ChangeSpec.witness6 (enc := enc) (C := Try.checked) false ⟨#[], #[.agg #[.bool false, .slice none 0 0]], []⟩ 8 (by kernel_rfl) (by kernel_rfl) (by kernel_rfl) (by kernel_rfl)) ?_
  intro W base args ds gs before hval hW _ hsz _
  exact contract H enc W base args ds gs before hval hW hsz

theorem over : Rows.wholeRootsRow.holds Try.pinned (OpenSpec.ofChange Rows.wholeRootsSpec) :=
  OpenClaim.holds_of_wide 6 Try.f6 rfl rfl rfl rfl rfl rfl rfl ⟨rfl, rfl, rfl, rfl, rfl⟩ rfl rfl rfl rfl rfl (by kernel_rfl) Try.func6 (by kernel_rfl)
    (of_decide_eq_true (by kernel_rfl)) (by unfold Func.isWrapper; first | (rw [if_pos (by decide +kernel)]; kernel_rfl) | (rw [if_neg (by decide +kernel)]; exact ⟨rfl, rfl⟩))
    (fun os started H enc _ => lifted os started H enc)

end Go.Proofs.Ytjdilgkjgednjaa.wholeRoots
namespace Go.Proofs.Ytjdilgkjgednjaa
theorem wholeRoots_holds : Rows.WholeRootsSaid := wholeRoots.over
#print axioms wholeRoots_holds
end Go.Proofs.Ytjdilgkjgednjaa
