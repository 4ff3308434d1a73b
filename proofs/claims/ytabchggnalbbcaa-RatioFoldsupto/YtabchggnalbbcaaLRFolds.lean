/-
  RatioFolds.
-/
import Derived.Test.YtabchggnalbbcaaWJA
import Derived.Test.YtabchggnalbbcaaWJB
import Derived.Test.YtabchggnalbbcaaWQA
import Derived.Test.YtabchggnalbbcaaOpenJ
namespace Go.Proofs.Ytabchggnalbbcaa
open Go.RowKit
set_option linter.unusedVariables false
theorem wsum_mem (q : Nat → IV) {n i : Nat} (h : i < n) : (q i).n + 1 ≤ wsum (upq q n) := by
  have := upq_wsum q (show i + 1 ≤ n from h)
  rw [upq_succ, wsum_snoc] at this
  omega
theorem wsum_len (q : Nat → IV) : ∀ n, n ≤ wsum (upq q n)
  | 0 => Nat.zero_le _
  | n + 1 => by
    have := wsum_len q n
    rw [upq_succ, wsum_snoc]
    omega
theorem upq_congr {q q' : Nat → IV} {f : IV → Int} : ∀ (n : Nat), (∀ i, i < n → f (q i) = f (q' i)) → (upq q n).map f = (upq q' n).map f
  | 0, _ => rfl
  | n + 1, h => by
    rw [upq_succ, upq_succ, List.map_append, List.map_append, upq_congr n fun i hi => h i (by omega)]
    simp [h n (by omega)]
theorem wsum_congr {q q' : Nat → IV} : ∀ (n : Nat), (∀ i, i < n → (q i).n = (q' i).n) → wsum (upq q n) = wsum (upq q' n)
  | 0, _ => rfl
  | n + 1, h => by
    rw [upq_succ, upq_succ, wsum_snoc, wsum_snoc, wsum_congr n fun i hi => h i (by omega), h n (by omega)]
theorem gd_congr {q q' : Nat → IV} {n : Nat} (h : ∀ i, i < n → (q i).val = (q' i).val) (hg : gd q n) : gd q' n := ⟨hg.1, fun i h1 h2 => by rw [← h i h2]; exact hg.2 i h1 h2⟩

theorem qFold_good (a : Option Addr) (len cap : Nat) (q : Nat → IV) (w : World) (hI : IntsAt w a len q) (hq : ∀ i, i < len → (q i).ok w) (hcap : len ≤ cap) (hl : len ≤ 1048576) (hw : wsum (upq q len) ≤ 4194304) (P Q : Int) (hPQ : cpq ((upq q len).map IV.val) = (P, Q)) (hg : gd q len) : Calls Try.prog 5 #[.slice a len cap] w fun e w' => ∃ pa pb, e = .returned (.tuple #[.agg #[.bool (ng P), .slice pa (ln (am P)) (ln (am P)), .slice pb (ln (am Q)) (ln (am Q))], .int .i64 0]) ∧ Below w.heap.size w w' ∧ Seg w' pa (am P) (ln (am P)) ∧ Seg w' pb (am Q) (ln (am Q)) := by
  refine (qFold_is a len cap q w hI hq hcap hl hw).mono ?_
  rintro e w' (⟨_, P', Q', pa, pb, h9, he, hb, ka, kb⟩ | ⟨h, _⟩)
  · rw [hPQ] at h9
    obtain ⟨rfl, rfl⟩ := Prod.mk.inj h9
    exact ⟨pa, pb, he, hb, ka, kb⟩
  · exact absurd hg h
theorem qFold_bad (a : Option Addr) (len cap : Nat) (q : Nat → IV) (w : World) (hI : IntsAt w a len q) (hq : ∀ i, i < len → (q i).ok w) (hcap : len ≤ cap) (hl : len ≤ 1048576) (hw : wsum (upq q len) ≤ 4194304) (hg : ¬ gd q len) : Calls Try.prog 5 #[.slice a len cap] w fun e w' => e = .returned (.tuple #[.agg #[.bool false, .slice none 0 0, .slice none 0 0], .int .i64 1]) ∧ Below w.heap.size w w' := by
  refine (qFold_is a len cap q w hI hq hcap hl hw).mono ?_
  rintro e w' (⟨h, _⟩ | ⟨_, h⟩)
  · exact absurd h hg
  · exact h
theorem vFold_good (a : Option Addr) (len cap : Nat) (q : Nat → IV) (w : World) (hI : IntsAt w a len q) (hq : ∀ i, i < len → (q i).ok w) (hcap : len ≤ cap) (hl : len ≤ 1048576) (hw : wsum (upq q len) ≤ 4194304) (P Q : Int) (hPQ : cpq ((upq q len).map IV.val) = (P, Q)) (hg : gd q len) : Calls Try.prog 6 #[.slice a len cap] w fun e w' => ∃ pa pb, e = .returned (.tuple #[.agg #[.bool (ng P), .slice pa (ln (am P)) (ln (am P)), .slice pb (ln (am Q)) (ln (am Q))], .int .i64 0]) ∧ Below w.heap.size w w' ∧ Seg w' pa (am P) (ln (am P)) ∧ Seg w' pb (am Q) (ln (am Q)) := by
  refine (vFold_is a len cap q w hI hq hcap hl hw).mono ?_
  rintro e w' (⟨_, P', Q', pa, pb, h9, he, hb, ka, kb⟩ | ⟨h, _⟩)
  · rw [hPQ] at h9
    obtain ⟨rfl, rfl⟩ := Prod.mk.inj h9
    exact ⟨pa, pb, he, hb, ka, kb⟩
  · exact absurd hg h
theorem vFold_bad (a : Option Addr) (len cap : Nat) (q : Nat → IV) (w : World) (hI : IntsAt w a len q) (hq : ∀ i, i < len → (q i).ok w) (hcap : len ≤ cap) (hl : len ≤ 1048576) (hw : wsum (upq q len) ≤ 4194304) (hg : ¬ gd q len) : Calls Try.prog 6 #[.slice a len cap] w fun e w' => e = .returned (.tuple #[.agg #[.bool false, .slice none 0 0, .slice none 0 0], .int .i64 1]) ∧ Below w.heap.size w w' := by
  refine (vFold_is a len cap q w hI hq hcap hl hw).mono ?_
  rintro e w' (⟨h, _⟩ | ⟨_, h⟩)
  · exact absurd h hg
  · exact h
def q12 (B : Nat) : Nat → IV
  | 0 => ⟨false, none, 0, 0, 0⟩
  | _ => ⟨false, some ⟨B, 0, none⟩, 1, 1, 2⟩
set_option maxRecDepth 100000 in
theorem fold_half (W : World) (P Q : Int) (hP : P = 1) (hQ : Q = 2) :
    Calls Try.prog 5 #[.slice (some ⟨W.heap.size + 1, 0, none⟩) 2 2] ((W.alloc (.cells #[.int .u32 2] 35)).alloc (.cells #[.bool false, .slice none 0 0, .bool false, .slice (some ⟨W.heap.size, 0, none⟩) 1 1] 26)) fun e w' =>
      ∃ pa pb, e = .returned (.tuple #[.agg #[.bool (ng P), .slice pa (ln (am P)) (ln (am P)), .slice pb (ln (am Q)) (ln (am Q))], .int .i64 0]) ∧ Below W.heap.size W w' ∧ Seg w' pa (am P) (ln (am P)) ∧ Seg w' pb (am Q) (ln (am Q)) := by
  have n1 := single_new W 2 35 2 (by omega) rfl
  have b2 := below_alloc (w := W.alloc (.cells #[.int .u32 2] 35)) (.cells #[.bool false, .slice none 0 0, .bool false, .slice (some ⟨W.heap.size, 0, none⟩) 1 1] 26)
  have b1 := n1.below
  have b3 := b1.trans (b2.mono b1.size)
  have hI : IntsAt ((W.alloc (.cells #[.int .u32 2] 35)).alloc (.cells #[.bool false, .slice none 0 0, .bool false, .slice (some ⟨W.heap.size, 0, none⟩) 1 1] 26)) (some ⟨W.heap.size + 1, 0, none⟩) 2 (q12 W.heap.size) := fun _ => ⟨W.heap.size + 1, 0, rfl, by simp, fun i hi => by
    match i, hi with
    | 0, _ => exact ⟨by simp only [q12]; go_simp, by simp only [q12]; go_simp⟩
    | 1, _ => exact ⟨by simp only [q12]; go_simp, by simp only [q12]; go_simp⟩⟩
  have hq : ∀ i, i < 2 → (q12 W.heap.size i).ok ((W.alloc (.cells #[.int .u32 2] 35)).alloc (.cells #[.bool false, .slice none 0 0, .bool false, .slice (some ⟨W.heap.size, 0, none⟩) 1 1] 26)) := fun i hi => by
    match i, hi with
    | 0, _ => exact ⟨Seg.nil _ _, Nat.le_refl _, by show 0 ≤ _; omega⟩
    | 1, _ => exact ⟨n1.seg.later b2, Nat.le_refl _, by show 1 ≤ _; omega⟩
  refine (qFold_good (some ⟨W.heap.size + 1, 0, none⟩) 2 2 (q12 W.heap.size) _ hI hq (Nat.le_refl _) (by omega) (by simp [wsum, upq, q12, List.range_succ]) P Q (by rw [hP, hQ]; simp [upq, q12, List.range_succ, IV.val, sg, cpq]) ⟨by omega, fun i h1 h2 => ?_⟩).mono ?_
  · obtain rfl : i = 1 := by omega
    simp [q12, IV.val, sg]
  · rintro e w' ⟨pa, pb, he, hb, ka, kb⟩
    exact ⟨pa, pb, he, b3.trans (hb.mono b3.size), ka, kb⟩
theorem norm_half (P Q : Int) (hP : P = 1) (hQ : Q = 2) (w : World) (pA pB : Option Addr) (h1 : Seg w pA 1 1) (h2 : Seg w pB 2 1) :
    Calls Try.prog 9 #[.agg #[.bool false, .slice pA 1 1, .slice pB 1 1]] w fun e w' => ∃ p q, e = .returned (.agg #[.bool (ng P), .slice p (ln (am P)) (ln (am P)), .slice q (ln (am Q)) (ln (am Q))]) ∧ Below w.heap.size w w' ∧ Seg w' p (am P) (ln (am P)) ∧ Seg w' q (am Q) (ln (am Q)) := by
  subst hP
  subst hQ
  refine (vqNorm_is false pA 1 1 1 pB 1 1 2 2 1 w (by omega) h1 (by omega) h2 ⟨by decide, by omega, by decide, by decide⟩).mono ?_
  rintro e w' ⟨p, q, he, m1, m2⟩
  exact ⟨p, q, he, m1.below, m1.seg, m2.seg⟩
end Go.Proofs.Ytabchggnalbbcaa
namespace Go.Proofs.Ytabchggnalbbcaa.ratioFolds
open Go.ChangeShapes Go.WideShapes Go.ChangeAt Go.RowKit Go.Proofs.Ytabchggnalbbcaa
set_option linter.unusedVariables false

set_option maxHeartbeats 8000000 in
set_option maxRecDepth 100000 in
theorem walk (a : Option Addr) (n cap : Nat) (q : Nat → IV) (w : World) (hI : IntsAt w a n q) (hok : ∀ i, i < n → Seg w (q i).a (q i).X (q i).n ∧ (q i).n ≤ (q i).c) (hc : n ≤ cap) (hb : wsum (upq q n) ≤ 1048576) :
    Calls Try.prog 3 #[.slice a n cap] w fun e w' => e = .returned (.bool true) ∧ Below w.heap.size w w' := by
  have hn := Nat.le_trans (wsum_len q n) hb
  have HQ := hide' (fun i (hi : i < n) => show (q i).ok w from ⟨(hok i hi).1, (hok i hi).2, by have := wsum_mem q hi; omega⟩)
  have HI := hide' hI
  have HW := hide' hb
  clear hI hok hb
  go_enter Try.func3, Try.ntmps3
  go_wp2_with (refine mk_ints _ (by rfl) _ _ (by rfl) n (by rfl) (by rfl) hn ?_; intro w1 G0 R0 b0 s0)
  have hgb : w.heap.size < w1.heap.size := by omega
  obtain ⟨gb, hgb2⟩ : ∃ g, w.heap.size = g := ⟨_, rfl⟩
  rw [hgb2] at G0 R0 hgb ⊢
  have hge : w.heap.size ≤ gb := by omega
  clear hgb2 s0
  go_loopw [4] (fun vi wr => ∃ j : Nat, j ≤ n ∧ vi = .int .i64 j ∧ ∃ k', IntsAt wr (some ⟨gb, 0, none⟩) n k' ∧ Row wr gb ∧ Below w.heap.size w wr ∧ ∀ i, i < j → (k' i).ok wr ∧ (k' i).val = (q i).val ∧ (k' i).n = (q i).n) (fun vi _ => n - (intOf vi).toNat)
  case atStart => exact ⟨0, Nat.zero_le _, rfl, _, G0, R0, by first | exact b0 | (simpa using b0), fun i hi => absurd hi (by omega)⟩
  case round =>
    obtain ⟨j, hj, rfl, k', hG, hR, hB, hq⟩ := hrel
    clear G0 R0 b0
    have HG := hide' hq
    clear hq
    by_cases hlt : j < n
    · obtain ⟨bb, off, rfl, hbl, hcell⟩ := HI.out (by omega)
      obtain ⟨y0, y1⟩ := hcell j hlt
      replace y0 := below_cell hB y0
      replace y1 := below_cell hB y1
      clear hcell
      have okj := HQ.out j hlt
      have GT := hide' (lwhole_is (q j).s (q j).a (q j).n (q j).c (q j).X wr (by have := okj.2.2; omega) (okj.1.later hB))
      go_wp2_with (go_at_call 4; refine GT.out.mono ?_; rintro e w2 ⟨p, rfl, n1⟩; have b2 := n1.below; have hG2 := hG.below b2; have hR2 := below_row b2 hR; obtain ⟨P1, P2, z0, z1⟩ := ints_put ⟨(q j).s, p, (q j).n, (q j).n, (q j).X⟩ hG2 hlt; have fz := fun o => hR2.frozen o)
      go_roundw
      case rel =>
        refine ⟨j + 1, by omega, by simp, _, P1, (hR2.setCell _ _).setCell _ _, ((hB.trans (b2.mono hB.size)).setCell hge _).setCell hge _, fun i hi => ?_⟩
        by_cases he : i = j
        · subst he
          simp only [if_true]
          refine ⟨⟨P2 _ _ _ n1.seg, Nat.le_refl _, okj.2.2⟩, rfl, ?_⟩
          first | rfl | trivial
        · simp only [if_neg he]
          obtain ⟨h1, h2⟩ := HG.out i (by omega)
          exact ⟨⟨P2 _ _ _ (h1.1.later b2), h1.2⟩, h2⟩
      case measure => simp [intOf]; omega
    · obtain rfl : j = n := by omega
      have hvc : ∀ i, i < j → (q i).val = (k' i).val := fun i hi => (HG.out i hi).2.1.symm
      have hws : wsum (upq k' j) ≤ 4194304 := by rw [wsum_congr j (fun i hi => (HG.out i hi).2.2)]; have := HW.out; omega
      by_cases hgd : gd q j
      · obtain ⟨P, Q, hPQ⟩ : ∃ P Q, cpq ((upq q j).map IV.val) = (P, Q) := ⟨_, _, rfl⟩
        obtain ⟨d1, d2⟩ := cpq_bd q (fun i hi => (HQ.out i hi).1.1) j 0 (by omega)
        rw [dl_zero, hPQ] at d1 d2
        dsimp only at d1 d2
        have lP := ln_le_of_lt d1
        have lQ := ln_le_of_lt d2
        have hW := HW.out
        have GF := hide' (qFold_good (some ⟨gb, 0, none⟩) j j k' wr hG (fun i hi => (HG.out i hi).1) (Nat.le_refl _) hn hws P Q (by rw [← upq_congr j hvc]; exact hPQ) (gd_congr hvc hgd))
        have GV := hide' (fun w' (hb9 : Below w.heap.size w w') => vFold_good a j cap q w' (HI.out.below hb9) (fun i hi => ⟨(HQ.out i hi).1.later hb9, (HQ.out i hi).2⟩) hc hn (by omega) P Q hPQ hgd)
        have GS := hide' (fun w' p1 p2 p3 p4 k1 k2 k3 k4 => sameQ_is P (am Q) p1 p2 p3 p4 w' (by omega) (by omega) k1 k2 k3 k4)
        clear d1 d2 lP lQ hW hPQ hgd hvc hws hG HG HI HQ HW
        go_wp2_with (first | (go_at_call 5; refine GF.out.mono ?_; clear GF; rintro e w2 ⟨pa, pb, rfl, b2, ka, kb⟩; have bX := below_alloc (w := w2) (.cells #[.bool (ng P), .slice pa (ln (am P)) (ln (am P)), .slice pb (ln (am Q)) (ln (am Q))] 29); have q5 := Blk.new w2 #[.bool (ng P), .slice pa (ln (am P)) (ln (am P)), .slice pb (ln (am Q)) (ln (am Q))] 29; have bel := (hB.trans (b2.mono hB.size)).trans (bX.mono (hB.trans (b2.mono hB.size)).size); replace ka := ka.later bX; replace kb := kb.later bX) | (go_at_call 6; refine (GV.out _ bel).mono ?_; clear GV; rintro e w3 ⟨pc, pd, rfl, b3, kc, kd⟩; have bY := below_alloc (w := w3) (.cells #[.bool (ng P), .slice pc (ln (am P)) (ln (am P)), .slice pd (ln (am Q)) (ln (am Q))] 29); have b4 := b3.trans (bY.mono b3.size); replace q5 := q5.later b4; replace bel := bel.trans (b4.mono bel.size); replace ka := ka.later b4; replace kb := kb.later b4; replace kc := kc.later bY; replace kd := kd.later bY; have x0 := q5.cell 0; have x1 := q5.cell 1; have x2 := q5.cell 2; simp only [List.getElem?_toArray, List.getElem?_cons_zero, List.getElem?_cons_succ] at x0 x1 x2) | (go_at_call 7; refine (GS.out _ pa pb pc pd ka kb kc kd).mono ?_; clear GS; rintro e W4 ⟨rfl, b5⟩))
        replace q5 := q5.later b5
        replace bel := bel.trans (b5.mono bel.size)
        have hc5 : w.heap.size ≤ w2.heap.size := Nat.le_trans hB.size b2.size
        clear b5 b2 b3 b4 bX bY ka kb kc kd x0 x1 x2 hB hR
        obtain ⟨P2, hP2⟩ : ∃ P : Int, P = 1 := ⟨_, rfl⟩
        obtain ⟨Q2, hQ2⟩ : ∃ Q : Int, Q = 2 := ⟨_, rfl⟩
        have l2 : ln (am P2) ≤ 70368744177664 ∧ ln (am Q2) ≤ 70368744177664 := by
          subst hP2
          subst hQ2
          have e1 := ln_le_of_lt (X := am 1) (n := 1) (by rw [Nat.pow_one, BB_eq]; decide)
          have e2 := ln_le_of_lt (X := am 2) (n := 1) (by rw [Nat.pow_one, BB_eq]; decide)
          omega
        have GN := hide' (fun w' pA pB k1 k2 => norm_half P2 Q2 hP2 hQ2 w' pA pB k1 k2)
        have GS2 := hide' (fun w' p1 p2 p3 p4 k1 k2 k3 k4 => sameQ_is P2 (am Q2) p1 p2 p3 p4 w' l2.1 l2.2 k1 k2 k3 k4)
        refine (fold_half W4 P2 Q2 hP2 hQ2).mono ?_
        clear hP2 hQ2 l2
        rintro e w6 ⟨pe, pf, rfl, b6, ke, kf⟩
        replace q5 := q5.later b6
        replace bel := bel.trans (b6.mono bel.size)
        have x0 := q5.cell 0
        have x1 := q5.cell 1
        have x2 := q5.cell 2
        simp only [List.getElem?_toArray, List.getElem?_cons_zero, List.getElem?_cons_succ] at x0 x1 x2
        have fz := fun o => q5.frozen o
        go_wp2_with fail
        obtain ⟨c9, q9⟩ := q5.set3 (.bool (ng P2)) (.slice pe (ln (am P2)) (ln (am P2))) (.slice pf (ln (am Q2)) (ln (am Q2)))
        have hno := q5.no (by simp)
        replace ke := ke.ch c9 hno
        replace kf := kf.ch c9 hno
        replace bel := bel.trans (c9.below hc5)
        have v0 := q9.cell 0
        have v1 := q9.cell 1
        have v2 := q9.cell 2
        simp only [List.getElem?_toArray, List.getElem?_cons_zero, List.getElem?_cons_succ] at v0 v1 v2
        obtain ⟨W7, hW7⟩ : ∃ W7, ((w6.setCell ⟨w2.heap.size, 0, none⟩ (.bool (ng P2))).setCell ⟨w2.heap.size, 1, none⟩ (.slice pe (ln (am P2)) (ln (am P2)))).setCell ⟨w2.heap.size, 2, none⟩ (.slice pf (ln (am Q2)) (ln (am Q2))) = W7 := ⟨_, rfl⟩
        rw [hW7] at q9 ke kf bel v0 v1 v2 ⊢
        clear hW7 c9 hno x0 x1 x2 fz q5 q9 b6
        have bD : Below W7.heap.size W7 W7.drew := (Below.refl _ _).drew
        have kv0 := below_cell bD v0
        have kv1 := below_cell bD v1
        have kv2 := below_cell bD v2
        replace bel := bel.trans (bD.mono bel.size)
        replace ke := ke.later bD
        replace kf := kf.later bD
        refine wp_region_held_drew (S := fun w' => w'.cell? ⟨w2.heap.size, 0, none⟩ = some (.bool (ng P2)) ∧ w'.cell? ⟨w2.heap.size, 1, none⟩ = some (.slice pe (ln (am P2)) (ln (am P2))) ∧ w'.cell? ⟨w2.heap.size, 2, none⟩ = some (.slice pf (ln (am Q2)) (ln (am Q2)))) (by kernel_rfl) ⟨kv0, kv1, kv2⟩ (fun hHeld => ?_)
        clear kv0 kv1 kv2
        generalize W7.drew = wH0 at bD ke kf bel hHeld ⊢
        clear bD v0 v1 v2
        refine take' 0 (v := ?_) rfl (by kernel_rfl) (by kernel_rfl) (by kernel_rfl) (fun _ _ _ h => h) (Or.inl ⟨by rfl, ?_⟩) (by assumption) ?_
        rotate_left
        · intro w9 hSw
          go_simp
          first | done | with_reducible rfl
        simp only [Act.put, List.setIfInBounds_toArray, List.set_cons_zero, List.set_cons_succ]
        refine take' 1 (v := ?_) rfl (by kernel_rfl) (by kernel_rfl) (by kernel_rfl) (fun _ _ _ h => h) (Or.inl ⟨by rfl, ?_⟩) (by assumption) ?_
        rotate_left
        · intro w9 hSw
          go_simp
          first | done | with_reducible rfl
        simp only [Act.put, List.setIfInBounds_toArray, List.set_cons_zero, List.set_cons_succ]
        refine take' 2 (v := ?_) rfl (by kernel_rfl) (by kernel_rfl) (by kernel_rfl) (fun _ _ _ h => h) (Or.inl ⟨by rfl, ?_⟩) (by assumption) ?_
        rotate_left
        · intro w9 hSw
          go_simp
          first | done | with_reducible rfl
        simp only [Act.put, List.setIfInBounds_toArray, List.set_cons_zero, List.set_cons_succ]
        refine take' 3 (v := ?_) rfl (by kernel_rfl) (by kernel_rfl) (by kernel_rfl) (fun _ _ _ h => h) (Or.inl ⟨by rfl, ?_⟩) (by assumption) ?_
        rotate_left
        · intro w9 hSw
          go_simp
          first | done | with_reducible rfl
        simp only [Act.put, List.setIfInBounds_toArray, List.set_cons_zero, List.set_cons_succ]
        refine wpAnyH_ready (rs := [4, 6]) (by kernel_rfl) (by simp) ?_
        refine consT rfl (fun KK hKK => ?_) ?_
        · skip
          go_simp
          have n9 := single_new wH0 1 35 1 (by omega) rfl
          have bC := n9.below
          have kA := n9.seg
          clear n9
          generalize wH0.alloc (.cells #[.int .u32 1] 35) = wH1 at bC kA ⊢
          obtain ⟨pA, hp9⟩ : ∃ p9, (some ⟨wH0.heap.size, 0, none⟩ : Option Addr) = p9 := ⟨_, rfl⟩
          rw [hp9] at kA ⊢
          clear hp9
          replace bel := bel.trans (bC.mono bel.size)
          replace ke := ke.later bC
          replace kf := kf.later bC
          replace hHeld := (⟨below_cell bC hHeld.1, below_cell bC hHeld.2.1, below_cell bC hHeld.2.2⟩ : _ ∧ _ ∧ _)
          clear bC
          refine hKK.out _ _ hHeld ?_
          clear hHeld
          intro hHeld
          clear hKK KK
          try simp only [Act.put, List.setIfInBounds_toArray, List.set_cons_zero, List.set_cons_succ]
          refine take' 5 (v := ?_) rfl (by kernel_rfl) (by kernel_rfl) (by kernel_rfl) (fun _ _ _ h => h) (Or.inl ⟨by rfl, ?_⟩) (by assumption) ?_
          rotate_left
          · intro w9 hSw
            go_simp
            first | done | with_reducible rfl
          simp only [Act.put, List.setIfInBounds_toArray, List.set_cons_zero, List.set_cons_succ]
          refine wpAnyH_ready (rs := [6]) (by kernel_rfl) (by simp) ?_
          refine cons' rfl (fun KK hKK => ?_)
          go_simp
          have n9 := single_new wH1 2 35 2 (by omega) rfl
          have bC := n9.below
          have kB := n9.seg
          clear n9
          generalize wH1.alloc (.cells #[.int .u32 2] 35) = wH2 at bC kB ⊢
          obtain ⟨pB, hp9⟩ : ∃ p9, (some ⟨wH1.heap.size, 0, none⟩ : Option Addr) = p9 := ⟨_, rfl⟩
          rw [hp9] at kB ⊢
          clear hp9
          replace bel := bel.trans (bC.mono bel.size)
          replace ke := ke.later bC
          replace kf := kf.later bC
          replace kA := kA.later bC
          replace hHeld := (⟨below_cell bC hHeld.1, below_cell bC hHeld.2.1, below_cell bC hHeld.2.2⟩ : _ ∧ _ ∧ _)
          clear bC
          refine hKK.out _ _ hHeld ?_
          clear hHeld
          intro hHeld
          clear hKK KK
          try simp only [Act.put, List.setIfInBounds_toArray, List.set_cons_zero, List.set_cons_succ]
          refine take' 7 (v := ?_) rfl (by kernel_rfl) (by kernel_rfl) (by kernel_rfl) (fun _ _ _ h => h) (Or.inl ⟨by rfl, ?_⟩) (by assumption) ?_
          rotate_left
          · intro w9 hSw
            go_simp
            first | done | with_reducible rfl
          simp only [Act.put, List.setIfInBounds_toArray, List.set_cons_zero, List.set_cons_succ]
          refine wpAnyH_ready (rs := [8]) (by kernel_rfl) (by simp) ?_
          refine cons' rfl (fun KK hKK => ?_)
          go_simp
          refine (GN.out _ pA pB kA kB).mono ?_
          rintro e wH3 ⟨pg, ph, rfl, bV, kg, kh⟩
          have bC := bV
          replace bel := bel.trans (bC.mono bel.size)
          replace ke := ke.later bC
          replace kf := kf.later bC
          replace kA := kA.later bC
          replace kB := kB.later bC
          replace hHeld := (⟨below_cell bC hHeld.1, below_cell bC hHeld.2.1, below_cell bC hHeld.2.2⟩ : _ ∧ _ ∧ _)
          clear bC
          go_wp2_with fail
          clear bV
          refine hKK.out _ _ hHeld ?_
          clear hHeld
          intro hHeld
          clear hKK KK
          try simp only [Act.put, List.setIfInBounds_toArray, List.set_cons_zero, List.set_cons_succ]
          refine wpAnyH_ready (rs := [9]) (by kernel_rfl) (by simp) ?_
          refine cons' rfl (fun KK hKK => ?_)
          go_simp
          refine (GS2.out _ pe pf pg ph ke kf kg kh).mono ?_
          rintro e wH4 ⟨rfl, bV⟩
          have bC := bV
          replace bel := bel.trans (bC.mono bel.size)
          replace ke := ke.later bC
          replace kf := kf.later bC
          replace kA := kA.later bC
          replace kB := kB.later bC
          replace kg := kg.later bC
          replace kh := kh.later bC
          replace hHeld := (⟨below_cell bC hHeld.1, below_cell bC hHeld.2.1, below_cell bC hHeld.2.2⟩ : _ ∧ _ ∧ _)
          clear bC
          go_wp2_with fail
          clear bV
          refine hKK.out _ _ hHeld ?_
          clear hHeld
          intro hHeld
          clear hKK KK
          try simp only [Act.put, List.setIfInBounds_toArray, List.set_cons_zero, List.set_cons_succ]
          refine take' 10 (v := ?_) rfl (by kernel_rfl) (by kernel_rfl) (by kernel_rfl) (fun _ _ _ h => h) (Or.inl ⟨by rfl, ?_⟩) (by assumption) ?_
          rotate_left
          · intro w9 hSw
            go_simp
            first | done | with_reducible rfl
          simp only [Act.put, List.setIfInBounds_toArray, List.set_cons_zero, List.set_cons_succ]
          refine take' 11 (v := ?_) rfl (by kernel_rfl) (by kernel_rfl) (by kernel_rfl) (fun _ _ _ h => h) (Or.inl ⟨by rfl, ?_⟩) (by assumption) ?_
          rotate_left
          · intro w9 hSw
            go_simp
            first | done | with_reducible rfl
          simp only [Act.put, List.setIfInBounds_toArray, List.set_cons_zero, List.set_cons_succ]
          refine wpAnyH_done (by kernel_rfl) ?_ _
          go_wp2
          go_ret
          exact ⟨rfl, bel⟩
        refine consT rfl (fun KK hKK => ?_) ?_
        · skip
          go_simp
          have n9 := single_new wH0 2 35 2 (by omega) rfl
          have bC := n9.below
          have kB := n9.seg
          clear n9
          generalize wH0.alloc (.cells #[.int .u32 2] 35) = wH5 at bC kB ⊢
          obtain ⟨pB, hp9⟩ : ∃ p9, (some ⟨wH0.heap.size, 0, none⟩ : Option Addr) = p9 := ⟨_, rfl⟩
          rw [hp9] at kB ⊢
          clear hp9
          replace bel := bel.trans (bC.mono bel.size)
          replace ke := ke.later bC
          replace kf := kf.later bC
          replace hHeld := (⟨below_cell bC hHeld.1, below_cell bC hHeld.2.1, below_cell bC hHeld.2.2⟩ : _ ∧ _ ∧ _)
          clear bC
          refine hKK.out _ _ hHeld ?_
          clear hHeld
          intro hHeld
          clear hKK KK
          try simp only [Act.put, List.setIfInBounds_toArray, List.set_cons_zero, List.set_cons_succ]
          refine wpAnyH_ready (rs := [4]) (by kernel_rfl) (by simp) ?_
          refine cons' rfl (fun KK hKK => ?_)
          go_simp
          have n9 := single_new wH5 1 35 1 (by omega) rfl
          have bC := n9.below
          have kA := n9.seg
          clear n9
          generalize wH5.alloc (.cells #[.int .u32 1] 35) = wH6 at bC kA ⊢
          obtain ⟨pA, hp9⟩ : ∃ p9, (some ⟨wH5.heap.size, 0, none⟩ : Option Addr) = p9 := ⟨_, rfl⟩
          rw [hp9] at kA ⊢
          clear hp9
          replace bel := bel.trans (bC.mono bel.size)
          replace ke := ke.later bC
          replace kf := kf.later bC
          replace kB := kB.later bC
          replace hHeld := (⟨below_cell bC hHeld.1, below_cell bC hHeld.2.1, below_cell bC hHeld.2.2⟩ : _ ∧ _ ∧ _)
          clear bC
          refine hKK.out _ _ hHeld ?_
          clear hHeld
          intro hHeld
          clear hKK KK
          try simp only [Act.put, List.setIfInBounds_toArray, List.set_cons_zero, List.set_cons_succ]
          refine take' 5 (v := ?_) rfl (by kernel_rfl) (by kernel_rfl) (by kernel_rfl) (fun _ _ _ h => h) (Or.inl ⟨by rfl, ?_⟩) (by assumption) ?_
          rotate_left
          · intro w9 hSw
            go_simp
            first | done | with_reducible rfl
          simp only [Act.put, List.setIfInBounds_toArray, List.set_cons_zero, List.set_cons_succ]
          refine take' 7 (v := ?_) rfl (by kernel_rfl) (by kernel_rfl) (by kernel_rfl) (fun _ _ _ h => h) (Or.inl ⟨by rfl, ?_⟩) (by assumption) ?_
          rotate_left
          · intro w9 hSw
            go_simp
            first | done | with_reducible rfl
          simp only [Act.put, List.setIfInBounds_toArray, List.set_cons_zero, List.set_cons_succ]
          refine wpAnyH_ready (rs := [8]) (by kernel_rfl) (by simp) ?_
          refine cons' rfl (fun KK hKK => ?_)
          go_simp
          refine (GN.out _ pA pB kA kB).mono ?_
          rintro e wH7 ⟨pg, ph, rfl, bV, kg, kh⟩
          have bC := bV
          replace bel := bel.trans (bC.mono bel.size)
          replace ke := ke.later bC
          replace kf := kf.later bC
          replace kB := kB.later bC
          replace kA := kA.later bC
          replace hHeld := (⟨below_cell bC hHeld.1, below_cell bC hHeld.2.1, below_cell bC hHeld.2.2⟩ : _ ∧ _ ∧ _)
          clear bC
          go_wp2_with fail
          clear bV
          refine hKK.out _ _ hHeld ?_
          clear hHeld
          intro hHeld
          clear hKK KK
          try simp only [Act.put, List.setIfInBounds_toArray, List.set_cons_zero, List.set_cons_succ]
          refine wpAnyH_ready (rs := [9]) (by kernel_rfl) (by simp) ?_
          refine cons' rfl (fun KK hKK => ?_)
          go_simp
          refine (GS2.out _ pe pf pg ph ke kf kg kh).mono ?_
          rintro e wH8 ⟨rfl, bV⟩
          have bC := bV
          replace bel := bel.trans (bC.mono bel.size)
          replace ke := ke.later bC
          replace kf := kf.later bC
          replace kB := kB.later bC
          replace kA := kA.later bC
          replace kg := kg.later bC
          replace kh := kh.later bC
          replace hHeld := (⟨below_cell bC hHeld.1, below_cell bC hHeld.2.1, below_cell bC hHeld.2.2⟩ : _ ∧ _ ∧ _)
          clear bC
          go_wp2_with fail
          clear bV
          refine hKK.out _ _ hHeld ?_
          clear hHeld
          intro hHeld
          clear hKK KK
          try simp only [Act.put, List.setIfInBounds_toArray, List.set_cons_zero, List.set_cons_succ]
          refine take' 10 (v := ?_) rfl (by kernel_rfl) (by kernel_rfl) (by kernel_rfl) (fun _ _ _ h => h) (Or.inl ⟨by rfl, ?_⟩) (by assumption) ?_
          rotate_left
          · intro w9 hSw
            go_simp
            first | done | with_reducible rfl
          simp only [Act.put, List.setIfInBounds_toArray, List.set_cons_zero, List.set_cons_succ]
          refine take' 11 (v := ?_) rfl (by kernel_rfl) (by kernel_rfl) (by kernel_rfl) (fun _ _ _ h => h) (Or.inl ⟨by rfl, ?_⟩) (by assumption) ?_
          rotate_left
          · intro w9 hSw
            go_simp
            first | done | with_reducible rfl
          simp only [Act.put, List.setIfInBounds_toArray, List.set_cons_zero, List.set_cons_succ]
          refine wpAnyH_done (by kernel_rfl) ?_ _
          go_wp2
          go_ret
          exact ⟨rfl, bel⟩
        exact AllReadyH.nil
      · skip
        have GF := hide' (qFold_bad (some ⟨gb, 0, none⟩) j j k' wr hG (fun i hi => (HG.out i hi).1) (Nat.le_refl _) hn hws (fun h => hgd (gd_congr (fun i hi => (hvc i hi).symm) h)))
        have hW := HW.out
        have GV := hide' (fun w' (hb9 : Below w.heap.size w w') => vFold_bad a j cap q w' (HI.out.below hb9) (fun i hi => ⟨(HQ.out i hi).1.later hb9, (HQ.out i hi).2⟩) hc hn (by omega) hgd)
        clear hW hgd hvc hws hG HG HI HQ HW
        go_wp2_with (first | (go_at_call 5; refine GF.out.mono ?_; clear GF; rintro e w2 ⟨rfl, b2⟩; have bX := below_alloc (w := w2) (.cells #[.bool false, .slice none 0 0, .slice none 0 0] 29); have q5 := Blk.new w2 #[.bool false, .slice none 0 0, .slice none 0 0] 29; have bel := (hB.trans (b2.mono hB.size)).trans (bX.mono (hB.trans (b2.mono hB.size)).size)) | (go_at_call 6; refine (GV.out _ bel).mono ?_; clear GV; rintro e w3 ⟨rfl, b3⟩; have bY := below_alloc (w := w3) (.cells #[.bool false, .slice none 0 0, .slice none 0 0] 29); have b4 := b3.trans (bY.mono b3.size); replace q5 := q5.later b4; replace bel := bel.trans (b4.mono bel.size); have x0 := q5.cell 0; have x1 := q5.cell 1; have x2 := q5.cell 2; simp only [List.getElem?_toArray, List.getElem?_cons_zero, List.getElem?_cons_succ] at x0 x1 x2) | (go_at_call 8; refine (none_is _).mono ?_; rintro e W4 ⟨rfl, b5⟩))
        replace q5 := q5.later b5
        replace bel := bel.trans (b5.mono bel.size)
        have hc5 : w.heap.size ≤ w2.heap.size := Nat.le_trans hB.size b2.size
        clear b5 b2 b3 b4 bX bY x0 x1 x2 hB hR
        obtain ⟨P2, hP2⟩ : ∃ P : Int, P = 1 := ⟨_, rfl⟩
        obtain ⟨Q2, hQ2⟩ : ∃ Q : Int, Q = 2 := ⟨_, rfl⟩
        have l2 : ln (am P2) ≤ 70368744177664 ∧ ln (am Q2) ≤ 70368744177664 := by
          subst hP2
          subst hQ2
          have e1 := ln_le_of_lt (X := am 1) (n := 1) (by rw [Nat.pow_one, BB_eq]; decide)
          have e2 := ln_le_of_lt (X := am 2) (n := 1) (by rw [Nat.pow_one, BB_eq]; decide)
          omega
        have GN := hide' (fun w' pA pB k1 k2 => norm_half P2 Q2 hP2 hQ2 w' pA pB k1 k2)
        have GS2 := hide' (fun w' p1 p2 p3 p4 k1 k2 k3 k4 => sameQ_is P2 (am Q2) p1 p2 p3 p4 w' l2.1 l2.2 k1 k2 k3 k4)
        refine (fold_half W4 P2 Q2 hP2 hQ2).mono ?_
        clear hP2 hQ2 l2
        rintro e w6 ⟨pe, pf, rfl, b6, ke, kf⟩
        replace q5 := q5.later b6
        replace bel := bel.trans (b6.mono bel.size)
        have x0 := q5.cell 0
        have x1 := q5.cell 1
        have x2 := q5.cell 2
        simp only [List.getElem?_toArray, List.getElem?_cons_zero, List.getElem?_cons_succ] at x0 x1 x2
        have fz := fun o => q5.frozen o
        go_wp2_with fail
        obtain ⟨c9, q9⟩ := q5.set3 (.bool (ng P2)) (.slice pe (ln (am P2)) (ln (am P2))) (.slice pf (ln (am Q2)) (ln (am Q2)))
        have hno := q5.no (by simp)
        replace ke := ke.ch c9 hno
        replace kf := kf.ch c9 hno
        replace bel := bel.trans (c9.below hc5)
        have v0 := q9.cell 0
        have v1 := q9.cell 1
        have v2 := q9.cell 2
        simp only [List.getElem?_toArray, List.getElem?_cons_zero, List.getElem?_cons_succ] at v0 v1 v2
        obtain ⟨W7, hW7⟩ : ∃ W7, ((w6.setCell ⟨w2.heap.size, 0, none⟩ (.bool (ng P2))).setCell ⟨w2.heap.size, 1, none⟩ (.slice pe (ln (am P2)) (ln (am P2)))).setCell ⟨w2.heap.size, 2, none⟩ (.slice pf (ln (am Q2)) (ln (am Q2))) = W7 := ⟨_, rfl⟩
        rw [hW7] at q9 ke kf bel v0 v1 v2 ⊢
        clear hW7 c9 hno x0 x1 x2 fz q5 q9 b6
        have bD : Below W7.heap.size W7 W7.drew := (Below.refl _ _).drew
        have kv0 := below_cell bD v0
        have kv1 := below_cell bD v1
        have kv2 := below_cell bD v2
        replace bel := bel.trans (bD.mono bel.size)
        replace ke := ke.later bD
        replace kf := kf.later bD
        refine wp_region_held_drew (S := fun w' => w'.cell? ⟨w2.heap.size, 0, none⟩ = some (.bool (ng P2)) ∧ w'.cell? ⟨w2.heap.size, 1, none⟩ = some (.slice pe (ln (am P2)) (ln (am P2))) ∧ w'.cell? ⟨w2.heap.size, 2, none⟩ = some (.slice pf (ln (am Q2)) (ln (am Q2)))) (by kernel_rfl) ⟨kv0, kv1, kv2⟩ (fun hHeld => ?_)
        clear kv0 kv1 kv2
        generalize W7.drew = wH0 at bD ke kf bel hHeld ⊢
        clear bD v0 v1 v2
        refine take' 0 (v := ?_) rfl (by kernel_rfl) (by kernel_rfl) (by kernel_rfl) (fun _ _ _ h => h) (Or.inl ⟨by rfl, ?_⟩) (by assumption) ?_
        rotate_left
        · intro w9 hSw
          go_simp
          first | done | with_reducible rfl
        simp only [Act.put, List.setIfInBounds_toArray, List.set_cons_zero, List.set_cons_succ]
        refine take' 1 (v := ?_) rfl (by kernel_rfl) (by kernel_rfl) (by kernel_rfl) (fun _ _ _ h => h) (Or.inl ⟨by rfl, ?_⟩) (by assumption) ?_
        rotate_left
        · intro w9 hSw
          go_simp
          first | done | with_reducible rfl
        simp only [Act.put, List.setIfInBounds_toArray, List.set_cons_zero, List.set_cons_succ]
        refine take' 2 (v := ?_) rfl (by kernel_rfl) (by kernel_rfl) (by kernel_rfl) (fun _ _ _ h => h) (Or.inl ⟨by rfl, ?_⟩) (by assumption) ?_
        rotate_left
        · intro w9 hSw
          go_simp
          first | done | with_reducible rfl
        simp only [Act.put, List.setIfInBounds_toArray, List.set_cons_zero, List.set_cons_succ]
        refine take' 3 (v := ?_) rfl (by kernel_rfl) (by kernel_rfl) (by kernel_rfl) (fun _ _ _ h => h) (Or.inl ⟨by rfl, ?_⟩) (by assumption) ?_
        rotate_left
        · intro w9 hSw
          go_simp
          first | done | with_reducible rfl
        simp only [Act.put, List.setIfInBounds_toArray, List.set_cons_zero, List.set_cons_succ]
        refine wpAnyH_ready (rs := [4, 6]) (by kernel_rfl) (by simp) ?_
        refine consT rfl (fun KK hKK => ?_) ?_
        · skip
          go_simp
          have n9 := single_new wH0 1 35 1 (by omega) rfl
          have bC := n9.below
          have kA := n9.seg
          clear n9
          generalize wH0.alloc (.cells #[.int .u32 1] 35) = wH1 at bC kA ⊢
          obtain ⟨pA, hp9⟩ : ∃ p9, (some ⟨wH0.heap.size, 0, none⟩ : Option Addr) = p9 := ⟨_, rfl⟩
          rw [hp9] at kA ⊢
          clear hp9
          replace bel := bel.trans (bC.mono bel.size)
          replace ke := ke.later bC
          replace kf := kf.later bC
          replace hHeld := (⟨below_cell bC hHeld.1, below_cell bC hHeld.2.1, below_cell bC hHeld.2.2⟩ : _ ∧ _ ∧ _)
          clear bC
          refine hKK.out _ _ hHeld ?_
          clear hHeld
          intro hHeld
          clear hKK KK
          try simp only [Act.put, List.setIfInBounds_toArray, List.set_cons_zero, List.set_cons_succ]
          refine take' 5 (v := ?_) rfl (by kernel_rfl) (by kernel_rfl) (by kernel_rfl) (fun _ _ _ h => h) (Or.inl ⟨by rfl, ?_⟩) (by assumption) ?_
          rotate_left
          · intro w9 hSw
            go_simp
            first | done | with_reducible rfl
          simp only [Act.put, List.setIfInBounds_toArray, List.set_cons_zero, List.set_cons_succ]
          refine wpAnyH_ready (rs := [6]) (by kernel_rfl) (by simp) ?_
          refine cons' rfl (fun KK hKK => ?_)
          go_simp
          have n9 := single_new wH1 2 35 2 (by omega) rfl
          have bC := n9.below
          have kB := n9.seg
          clear n9
          generalize wH1.alloc (.cells #[.int .u32 2] 35) = wH2 at bC kB ⊢
          obtain ⟨pB, hp9⟩ : ∃ p9, (some ⟨wH1.heap.size, 0, none⟩ : Option Addr) = p9 := ⟨_, rfl⟩
          rw [hp9] at kB ⊢
          clear hp9
          replace bel := bel.trans (bC.mono bel.size)
          replace ke := ke.later bC
          replace kf := kf.later bC
          replace kA := kA.later bC
          replace hHeld := (⟨below_cell bC hHeld.1, below_cell bC hHeld.2.1, below_cell bC hHeld.2.2⟩ : _ ∧ _ ∧ _)
          clear bC
          refine hKK.out _ _ hHeld ?_
          clear hHeld
          intro hHeld
          clear hKK KK
          try simp only [Act.put, List.setIfInBounds_toArray, List.set_cons_zero, List.set_cons_succ]
          refine take' 7 (v := ?_) rfl (by kernel_rfl) (by kernel_rfl) (by kernel_rfl) (fun _ _ _ h => h) (Or.inl ⟨by rfl, ?_⟩) (by assumption) ?_
          rotate_left
          · intro w9 hSw
            go_simp
            first | done | with_reducible rfl
          simp only [Act.put, List.setIfInBounds_toArray, List.set_cons_zero, List.set_cons_succ]
          refine wpAnyH_ready (rs := [8]) (by kernel_rfl) (by simp) ?_
          refine cons' rfl (fun KK hKK => ?_)
          go_simp
          refine (GN.out _ pA pB kA kB).mono ?_
          rintro e wH3 ⟨pg, ph, rfl, bV, kg, kh⟩
          have bC := bV
          replace bel := bel.trans (bC.mono bel.size)
          replace ke := ke.later bC
          replace kf := kf.later bC
          replace kA := kA.later bC
          replace kB := kB.later bC
          replace hHeld := (⟨below_cell bC hHeld.1, below_cell bC hHeld.2.1, below_cell bC hHeld.2.2⟩ : _ ∧ _ ∧ _)
          clear bC
          go_wp2_with fail
          clear bV
          refine hKK.out _ _ hHeld ?_
          clear hHeld
          intro hHeld
          clear hKK KK
          try simp only [Act.put, List.setIfInBounds_toArray, List.set_cons_zero, List.set_cons_succ]
          refine wpAnyH_ready (rs := [9]) (by kernel_rfl) (by simp) ?_
          refine cons' rfl (fun KK hKK => ?_)
          go_simp
          refine (GS2.out _ pe pf pg ph ke kf kg kh).mono ?_
          rintro e wH4 ⟨rfl, bV⟩
          have bC := bV
          replace bel := bel.trans (bC.mono bel.size)
          replace ke := ke.later bC
          replace kf := kf.later bC
          replace kA := kA.later bC
          replace kB := kB.later bC
          replace kg := kg.later bC
          replace kh := kh.later bC
          replace hHeld := (⟨below_cell bC hHeld.1, below_cell bC hHeld.2.1, below_cell bC hHeld.2.2⟩ : _ ∧ _ ∧ _)
          clear bC
          go_wp2_with fail
          clear bV
          refine hKK.out _ _ hHeld ?_
          clear hHeld
          intro hHeld
          clear hKK KK
          try simp only [Act.put, List.setIfInBounds_toArray, List.set_cons_zero, List.set_cons_succ]
          refine take' 10 (v := ?_) rfl (by kernel_rfl) (by kernel_rfl) (by kernel_rfl) (fun _ _ _ h => h) (Or.inl ⟨by rfl, ?_⟩) (by assumption) ?_
          rotate_left
          · intro w9 hSw
            go_simp
            first | done | with_reducible rfl
          simp only [Act.put, List.setIfInBounds_toArray, List.set_cons_zero, List.set_cons_succ]
          refine take' 11 (v := ?_) rfl (by kernel_rfl) (by kernel_rfl) (by kernel_rfl) (fun _ _ _ h => h) (Or.inl ⟨by rfl, ?_⟩) (by assumption) ?_
          rotate_left
          · intro w9 hSw
            go_simp
            first | done | with_reducible rfl
          simp only [Act.put, List.setIfInBounds_toArray, List.set_cons_zero, List.set_cons_succ]
          refine wpAnyH_done (by kernel_rfl) ?_ _
          go_wp2
          go_ret
          exact ⟨rfl, bel⟩
        refine consT rfl (fun KK hKK => ?_) ?_
        · skip
          go_simp
          have n9 := single_new wH0 2 35 2 (by omega) rfl
          have bC := n9.below
          have kB := n9.seg
          clear n9
          generalize wH0.alloc (.cells #[.int .u32 2] 35) = wH5 at bC kB ⊢
          obtain ⟨pB, hp9⟩ : ∃ p9, (some ⟨wH0.heap.size, 0, none⟩ : Option Addr) = p9 := ⟨_, rfl⟩
          rw [hp9] at kB ⊢
          clear hp9
          replace bel := bel.trans (bC.mono bel.size)
          replace ke := ke.later bC
          replace kf := kf.later bC
          replace hHeld := (⟨below_cell bC hHeld.1, below_cell bC hHeld.2.1, below_cell bC hHeld.2.2⟩ : _ ∧ _ ∧ _)
          clear bC
          refine hKK.out _ _ hHeld ?_
          clear hHeld
          intro hHeld
          clear hKK KK
          try simp only [Act.put, List.setIfInBounds_toArray, List.set_cons_zero, List.set_cons_succ]
          refine wpAnyH_ready (rs := [4]) (by kernel_rfl) (by simp) ?_
          refine cons' rfl (fun KK hKK => ?_)
          go_simp
          have n9 := single_new wH5 1 35 1 (by omega) rfl
          have bC := n9.below
          have kA := n9.seg
          clear n9
          generalize wH5.alloc (.cells #[.int .u32 1] 35) = wH6 at bC kA ⊢
          obtain ⟨pA, hp9⟩ : ∃ p9, (some ⟨wH5.heap.size, 0, none⟩ : Option Addr) = p9 := ⟨_, rfl⟩
          rw [hp9] at kA ⊢
          clear hp9
          replace bel := bel.trans (bC.mono bel.size)
          replace ke := ke.later bC
          replace kf := kf.later bC
          replace kB := kB.later bC
          replace hHeld := (⟨below_cell bC hHeld.1, below_cell bC hHeld.2.1, below_cell bC hHeld.2.2⟩ : _ ∧ _ ∧ _)
          clear bC
          refine hKK.out _ _ hHeld ?_
          clear hHeld
          intro hHeld
          clear hKK KK
          try simp only [Act.put, List.setIfInBounds_toArray, List.set_cons_zero, List.set_cons_succ]
          refine take' 5 (v := ?_) rfl (by kernel_rfl) (by kernel_rfl) (by kernel_rfl) (fun _ _ _ h => h) (Or.inl ⟨by rfl, ?_⟩) (by assumption) ?_
          rotate_left
          · intro w9 hSw
            go_simp
            first | done | with_reducible rfl
          simp only [Act.put, List.setIfInBounds_toArray, List.set_cons_zero, List.set_cons_succ]
          refine take' 7 (v := ?_) rfl (by kernel_rfl) (by kernel_rfl) (by kernel_rfl) (fun _ _ _ h => h) (Or.inl ⟨by rfl, ?_⟩) (by assumption) ?_
          rotate_left
          · intro w9 hSw
            go_simp
            first | done | with_reducible rfl
          simp only [Act.put, List.setIfInBounds_toArray, List.set_cons_zero, List.set_cons_succ]
          refine wpAnyH_ready (rs := [8]) (by kernel_rfl) (by simp) ?_
          refine cons' rfl (fun KK hKK => ?_)
          go_simp
          refine (GN.out _ pA pB kA kB).mono ?_
          rintro e wH7 ⟨pg, ph, rfl, bV, kg, kh⟩
          have bC := bV
          replace bel := bel.trans (bC.mono bel.size)
          replace ke := ke.later bC
          replace kf := kf.later bC
          replace kB := kB.later bC
          replace kA := kA.later bC
          replace hHeld := (⟨below_cell bC hHeld.1, below_cell bC hHeld.2.1, below_cell bC hHeld.2.2⟩ : _ ∧ _ ∧ _)
          clear bC
          go_wp2_with fail
          clear bV
          refine hKK.out _ _ hHeld ?_
          clear hHeld
          intro hHeld
          clear hKK KK
          try simp only [Act.put, List.setIfInBounds_toArray, List.set_cons_zero, List.set_cons_succ]
          refine wpAnyH_ready (rs := [9]) (by kernel_rfl) (by simp) ?_
          refine cons' rfl (fun KK hKK => ?_)
          go_simp
          refine (GS2.out _ pe pf pg ph ke kf kg kh).mono ?_
          rintro e wH8 ⟨rfl, bV⟩
          have bC := bV
          replace bel := bel.trans (bC.mono bel.size)
          replace ke := ke.later bC
          replace kf := kf.later bC
          replace kB := kB.later bC
          replace kA := kA.later bC
          replace kg := kg.later bC
          replace kh := kh.later bC
          replace hHeld := (⟨below_cell bC hHeld.1, below_cell bC hHeld.2.1, below_cell bC hHeld.2.2⟩ : _ ∧ _ ∧ _)
          clear bC
          go_wp2_with fail
          clear bV
          refine hKK.out _ _ hHeld ?_
          clear hHeld
          intro hHeld
          clear hKK KK
          try simp only [Act.put, List.setIfInBounds_toArray, List.set_cons_zero, List.set_cons_succ]
          refine take' 10 (v := ?_) rfl (by kernel_rfl) (by kernel_rfl) (by kernel_rfl) (fun _ _ _ h => h) (Or.inl ⟨by rfl, ?_⟩) (by assumption) ?_
          rotate_left
          · intro w9 hSw
            go_simp
            first | done | with_reducible rfl
          simp only [Act.put, List.setIfInBounds_toArray, List.set_cons_zero, List.set_cons_succ]
          refine take' 11 (v := ?_) rfl (by kernel_rfl) (by kernel_rfl) (by kernel_rfl) (fun _ _ _ h => h) (Or.inl ⟨by rfl, ?_⟩) (by assumption) ?_
          rotate_left
          · intro w9 hSw
            go_simp
            first | done | with_reducible rfl
          simp only [Act.put, List.setIfInBounds_toArray, List.set_cons_zero, List.set_cons_succ]
          refine wpAnyH_done (by kernel_rfl) ?_ _
          go_wp2
          go_ret
          exact ⟨rfl, bel⟩
        exact AllReadyH.nil

set_option maxRecDepth 100000 in
theorem contract (H : Type) (enc : TypeId × Value → H) (W : World) (base : Nat) (args : Array Value) (ds gs : List (DataW H)) (before : List MemPlace)
    (hval : ∀ (j : Nat) t v, Try.f3.params[j]? = some t → args[j]? = some v → Value.okWide Try.prog W .any base t v)
    (hW : DataW.Whole enc Try.prog Try.f3.params.toList Rows.ratioFoldsSpec.vars false W args.toList ds gs before)
    (hsz : (DataW.weightsEach Try.prog (Try.f3.params.toList ++ Rows.ratioFoldsSpec.plain.varTypes Try.prog) (ds ++ gs)).all (· ≤ reachBytes) = true) (hk : Rows.uptoSmall H (ds ++ gs) = true) :
    Calls Try.prog 3 args W fun e W' => ∃ v, e = .returned v ∧ Rows.ratioFoldsSpec.post enc Try.prog Try.f3 false true false false W args v W' := by
  have hW' := hW
  obtain ⟨p, q, hA0, hV, rfl, hfz, hnd⟩ := hW
  have hA : DataW.TrodAll enc Try.prog W 0 (fun _ => true) true Try.f3.params.toList args.toList ds p := hA0
  rw [Try.params3] at hA hval hsz
  obtain ⟨v0, vs0, d0, ds0, p0, q0, hargs, rfl, rfl, h0, r0⟩ := trodAll_cons hA
  obtain ⟨rfl, rfl, rfl⟩ := trodAll_nil r0
  obtain rfl : args = #[v0] := by cases args; simp_all
  obtain ⟨rfl, rfl⟩ := trodVars_none hV
  have lt0 : ∀ x ∈ p0, x.block < W.heap.size := by obtain ⟨m, hm⟩ := h0; exact DataW.trod_lt m _ _ _ hm
  obtain ⟨xa0, xl0, xc0, rfl⟩ := okWide_slice Try.underlying22 (hval 0 22 v0 rfl rfl)
  obtain ⟨fu0, hm0⟩ := id h0
  obtain ⟨fa0, fn0, fc0, ff0, hcs0, hF0, hfo0, hfc0, hfz0, hfu0⟩ := open_IntV hm0 (sized_at 0 hsz rfl rfl)
  simp [Value.cells] at hcs0
  obtain ⟨rfl, rfl, rfl⟩ := hcs0
  clear hA0
  have hbulk := of_decide_eq_true hk
  simp only [List.append_nil, Rows.uptoBulkAll] at hbulk
  simp only [List.append_nil] at hW'
  refine (walk xa0 xl0 xc0 ff0 W hF0 hfo0 hfc0 (by omega)).mono fun e W' ⟨he, bel⟩ => ?_
  subst he
  exact ⟨_, rfl, _, _, _, [], _, [], hW', trodAll_mk1 (shut_bool Try.underlying4 _), (trodAll_cons_mk (Below.trod laidOut (by kernel_rfl) (of_decide_eq_true (by kernel_rfl)) h0 bel lt0) trodAll_mk0), rfl, bel.frame _, fun h => by cases h⟩

set_option maxRecDepth 100000 in
theorem lifted (os : Os) (started : os.Started) (H : Type) (enc : TypeId × Value → H) (F : Stop.Interp) :
    ReturnsInHanded {} Try.checked os 3 .any ((Rows.OpenSpec.upto Rows.ratioFoldsSpec).pre6 enc Try.prog Try.f3 Rows.ratioFoldsUptoRow.domain false) (((Rows.OpenSpec.upto Rows.ratioFoldsSpec).at F).post enc Try.prog Try.f3 false true false false) := by
  refine returnsInHanded_of_cond_sized (C := Try.checked) (s := Rows.OpenSpec.upto Rows.ratioFoldsSpec) (k := Rows.uptoSmall) rfl own started (by kernel_rfl) Try.func3
    (OpenSpec.witness (enc := enc) (C := Try.checked) (s := Rows.OpenSpec.upto Rows.ratioFoldsSpec) (k := Rows.uptoSmall) rfl false ⟨#[], #[.slice none 0 0], []⟩ 8 (by kernel_rfl) (by kernel_rfl) (by kernel_rfl)
      (x := ([.nil], [], [])) (by kernel_rfl) rfl (by kernel_rfl)) ?_
  intro W base args ds gs before hval hW _ hk hsz _
  exact contract H enc W base args ds gs before hval hW hsz hk

theorem over : Rows.ratioFoldsUptoRow.holds Try.pinned (Rows.OpenSpec.upto Rows.ratioFoldsSpec) :=
  OpenClaim.holds_of_cond 3 Try.f3 rfl rfl rfl rfl rfl rfl rfl ⟨rfl, rfl, rfl, rfl, rfl⟩ rfl rfl rfl rfl rfl (by kernel_rfl) Try.func3 (by kernel_rfl)
    (of_decide_eq_true (by kernel_rfl)) (by unfold Func.isWrapper; first | (rw [if_pos (by decide +kernel)]; kernel_rfl) | (rw [if_neg (by decide +kernel)]; exact ⟨rfl, rfl⟩))
    (fun os started H enc _ F => lifted os started H enc F)

end Go.Proofs.Ytabchggnalbbcaa.ratioFolds
namespace Go.Proofs.Ytabchggnalbbcaa
theorem ratioFolds_holds : Rows.RatioFoldsUptoSaid := ratioFolds.over
#print axioms ratioFolds_holds
end Go.Proofs.Ytabchggnalbbcaa
