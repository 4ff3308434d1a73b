/-
  Fold: the number of a continued fraction, of the reference.
-/
import Derived.Test.YtabchggnalbbcaaWJ9
import Derived.Test.YtabchggnalbbcaaWQD
import Derived.Test.YtabchggnalbbcaaWQ8
import Derived.Test.YtabchggnalbbcaaWI4
import Derived.Test.YtabchggnalbbcaaThr3
namespace Go.Proofs.Ytabchggnalbbcaa
open Go.RowKit
set_option linter.unusedVariables false
set_option linter.unusedSimpArgs false

/-- the numbers from place k on -/
def dl (q : Nat → IV) (len k : Nat) : List Int := ((upq q len).map IV.val).drop k
theorem dl_zero (q : Nat → IV) (len : Nat) : dl q len 0 = (upq q len).map IV.val := rfl
theorem dl_end (q : Nat → IV) (len : Nat) : dl q len len = [] := by simp [dl, upq]
theorem dl_cons (q : Nat → IV) {len k : Nat} (h : k < len) : dl q len k = (q k).val :: dl q len (k + 1) := by
  have hk : k < ((upq q len).map IV.val).length := by simpa [upq] using h
  unfold dl
  rw [List.drop_eq_getElem_cons hk]
  congr 1
  simp [upq]
theorem dl_pos (q : Nat → IV) {len : Nat} (hg : gd q len) {k : Nat} (hk : 1 ≤ k) : ∀ x ∈ dl q len k, 0 < x := by
  intro x hx
  obtain ⟨i, hi, rfl⟩ := List.mem_iff_getElem.1 hx
  simp only [dl, List.length_drop, List.length_map, upq, List.length_range] at hi
  simp only [dl, List.getElem_drop, List.getElem_map, upq, List.getElem_range]
  exact hg.2 _ (by omega) (by omega)
theorem cpq_bd (q : Nat → IV) {len : Nat} (hX : ∀ i, i < len → (q i).X < BB ^ (q i).n) : ∀ (d k : Nat), k + d = len → am (cpq (dl q len k)).1 < BB ^ (1 + (wsum (upq q len) - wsum (upq q k))) ∧ am (cpq (dl q len k)).2 < BB ^ (1 + (wsum (upq q len) - wsum (upq q k)))
  | 0, k, h => by
    obtain rfl : k = len := by omega
    rw [dl_end, Nat.sub_self]
    exact ⟨by simp [cpq, am, BB_eq], by simp [cpq, am, BB_eq]⟩
  | d + 1, k, h => by
    obtain ⟨h1, h2⟩ := cpq_bd q hX d (k + 1) (by omega)
    rw [dl_cons q (show k < len by omega)]
    have e1 : wsum (upq q (k + 1)) = wsum (upq q k) + ((q k).n + 1) := by rw [upq_succ, wsum_snoc]
    have e2 := upq_wsum q (show k + 1 ≤ len by omega)
    have e3 : 1 + (wsum (upq q len) - wsum (upq q k)) = 1 + (wsum (upq q len) - wsum (upq q (k + 1))) + ((q k).n + 1) := by omega
    rw [e3]
    refine ⟨?_, Nat.lt_of_lt_of_le h1 (pow_mono (by omega))⟩
    have := cv_bd (s := (q k).s) h1 h2 (hX k (by omega))
    show am ((q k).val * (cpq (dl q len (k + 1))).1 + (cpq (dl q len (k + 1))).2) < _
    rw [Int.mul_comm]
    exact this

set_option maxHeartbeats 2000000 in
set_option maxRecDepth 100000 in
theorem vqIntR_is (s : Bool) (p0 : Option Addr) (n c X : Nat) (z : Int) (hz : sg s X = z) (w : World) (lz : n ≤ 4398046511104) (hS : Seg w p0 X n) :
    Calls Try.prog 15 #[.agg #[.bool s, .slice p0 n c]] w fun e w' => ∃ p q, e = .returned (.agg #[.bool (ng z), .slice p (ln (am z)) (ln (am z)), .slice q (ln 1) (ln 1)]) ∧ Below w.heap.size w w' ∧ Seg w' p (am z) (ln (am z)) ∧ Seg w' q 1 (ln 1) := by
  have hL : Low (rn s X 1) ((rd 1 : Nat) : Int) z 1 := by
    have e : rn s X 1 = z := by rw [rn_of (Y := 1) (by omega), hz]
    rw [e]
    show Low z ((1 : Nat) : Int) z 1
    exact Low.self (by omega) (by simp)
  obtain ⟨V, hV⟩ : ∃ V : Nat, 1 = V := ⟨_, rfl⟩
  have P2 : ∀ w' q, Seg w' p0 X n → Seg w' q 1 1 → Calls Try.prog 9 #[.agg #[.bool s, .slice p0 n c, .slice q 1 1]] w' fun e w'' => ∃ p q, e = .returned (.agg #[.bool (ng z), .slice p (ln (am z)) (ln (am z)), .slice q (ln V) (ln V)]) ∧ New w' w'' p (am z) (ln (am z)) ∧ New w' w'' q V (ln V) := fun w' q k1 k2 => by
    subst hV
    exact vqNorm_is s p0 n c X q 1 1 1 1 z w' (by omega) k1 (by omega) k2 hL
  have H2 := hide' P2
  rw [show ln 1 = ln V by rw [hV]]
  have e1 : ∀ w' q, Seg w' q 1 (ln V) ↔ Seg w' q V (ln V) := fun w' q => by rw [← hV]
  simp only [e1]
  clear P2 hL hV e1
  have bA := (below_alloc (w := w) (.cells #[.bool s, .slice p0 n c] 26)).alloc (by simp) (.cells #[.bool false, .slice none 0 0, .slice none 0 0] 29)
  have n9 := single_new ((w.alloc (.cells #[.bool s, .slice p0 n c] 26)).alloc (.cells #[.bool false, .slice none 0 0, .slice none 0 0] 29)) 1 35 1 (by omega) rfl
  simp only [World.size_alloc] at n9
  have bB := n9.below
  have v9 := Blk.new (w.alloc (.cells #[.bool s, .slice p0 n c] 26)) #[.bool false, .slice none 0 0, .slice none 0 0] 29
  rw [World.size_alloc] at v9
  have v8 := v9.later bB
  have b8 := bA.trans (bB.mono bA.size)
  have G2 := hide' (H2.out _ _ ((hS.later bA).later bB) n9.seg)
  clear H2 v9 bA bB n9 hS
  go_enter Try.func15, Try.ntmps15
  go_wp2_with (go_at_call 9; refine G2.out.mono ?_; rintro e w2 ⟨p, q, rfl, hp, hq⟩; have v7 := v8.later hp.below; have b7 := b8.trans (hp.below.mono b8.size); clear G2 v8 b8; have z0 := v7.cell 0; have z1 := v7.cell 1; have z2 := v7.cell 2; simp only [List.getElem?_toArray, List.getElem?_cons_zero, List.getElem?_cons_succ] at z0 z1 z2; have fz := fun o => v7.frozen o)
  obtain ⟨c9, q9⟩ := v7.set3 (.bool (ng z)) (.slice p (ln (am z)) (ln (am z))) (.slice q (ln V) (ln V))
  have hno := v7.no (by simp)
  have s1 := hp.seg.ch c9 hno
  have s2 := hq.seg.ch c9 hno
  have b6 := b7.trans (c9.below (by omega))
  clear z0 z1 z2 fz
  have z0 := q9.cell 0
  have z1 := q9.cell 1
  have z2 := q9.cell 2
  simp only [List.getElem?_toArray, List.getElem?_cons_zero, List.getElem?_cons_succ] at z0 z1 z2
  refine bodyPost_ret (v := .agg #[.bool (ng z), .slice p (ln (am z)) (ln (am z)), .slice q (ln V) (ln V)]) (by rw [results_cell rfl]; go_simp) rfl ?_
  exact ⟨p, q, rfl, b6, s1, s2⟩

set_option maxRecDepth 100000 in
set_option maxHeartbeats 8000000 in
theorem vFold_is (a : Option Addr) (len cap : Nat) (q : Nat → IV) (w : World) (hI : IntsAt w a len q) (hq : ∀ i, i < len → (q i).ok w) (hcap : len ≤ cap) (hl : len ≤ 1048576) (hw : wsum (upq q len) ≤ 4194304) :
    Calls Try.prog 6 #[.slice a len cap] w fun e w' => (gd q len ∧ ∃ P Q pa pb, cpq ((upq q len).map IV.val) = (P, Q) ∧ e = .returned (.tuple #[.agg #[.bool (ng P), .slice pa (ln (am P)) (ln (am P)), .slice pb (ln (am Q)) (ln (am Q))], .int .i64 0]) ∧ Below w.heap.size w w' ∧ Seg w' pa (am P) (ln (am P)) ∧ Seg w' pb (am Q) (ln (am Q))) ∨ (¬ gd q len ∧ e = .returned (.tuple #[.agg #[.bool false, .slice none 0 0, .slice none 0 0], .int .i64 1]) ∧ Below w.heap.size w w') := by
  have bA := below_alloc (w := w) (.cells #[.bool false, .slice none 0 0, .slice none 0 0] 29)
  have qR := Blk.new w #[.bool false, .slice none 0 0, .slice none 0 0] 29
  by_cases h0 : len = 0
  · subst h0
    have hng : ¬ gd q 0 := fun h => absurd h.1 (by omega)
    go_enter Try.func6, Try.ntmps6
    go_wp2
    refine bodyPost_ret (v := .tuple #[.agg #[.bool false, .slice none 0 0, .slice none 0 0], .int .i64 1]) (by rw [results_ct rfl]; go_simp) rfl ?_
    exact Or.inr ⟨hng, rfl, bA⟩
  · have hbd := fun k (hk : k ≤ len) => cpq_bd q (fun i hi => (hq i hi).1.1) (len - k) k (by omega)
    obtain ⟨b, off, rfl, hbl, hcl⟩ := hI (by omega)
    have HC := hide' hcl
    have HQ := hide' hq
    have HW := hide' hw
    have HD := hide' hbd
    clear hcl hI hq hw hbd
    have hlb : (((len : Nat) : Int) == 0) = false := by rw [beq_eq_false_iff_ne]; omega
    obtain ⟨WA, hWA⟩ : ∃ WA, w.alloc (.cells #[.bool false, .slice none 0 0, .slice none 0 0] 29) = WA := ⟨_, rfl⟩
    go_enter Try.func6, Try.ntmps6
    go_wp2_with fail
    rw [hWA] at bA qR
    clear hWA hlb
    go_loopw [4] (fun vi wr => ∃ k : Nat, 1 ≤ k ∧ k ≤ len ∧ vi = .int .i64 k ∧ (∀ i, 1 ≤ i → i < k → 0 < (q i).val) ∧ Below WA.heap.size WA wr) (fun vi _ => len - (intOf vi).toNat)
    case atStart => exact ⟨1, Nat.le_refl _, by omega, rfl, fun i h1 h2 => absurd h1 (by omega), Below.refl _ _⟩
    case round =>
      obtain ⟨k, hk1, hk, rfl, hpos, hB⟩ := hrel
      have HP := hide' hpos
      clear hpos
      have bW := bA.trans (hB.mono bA.size)
      have qR1 := qR.later hB
      by_cases hlt : k < len
      · obtain ⟨y0, y1⟩ := HC.out k hlt
        replace y0 := below_cell bW y0
        replace y1 := below_cell bW y1
        have okk := HQ.out k hlt
        have GS := hide' (vSign_is (q k).s (q k).a (q k).n (q k).c (q k).X (q k).val wr (by have := okk.2.2; omega) (okk.1.later bW) rfl)
        by_cases hv : (q k).val ≤ 0
        · have hs := hide' (show (decide (sgn (q k).val < 1)) = true by rw [decide_eq_true_iff]; exact sgn_lt.2 hv)
          have HV := hide' hv
          clear hv
          go_wp2_with (go_at_call 14; refine GS.out.mono ?_; rintro e w3 ⟨rfl, b3⟩; have qR3 := qR1.later b3; have v0 := qR3.cell 0; have v1 := qR3.cell 1; have v2 := qR3.cell 2; have fz := fun o => qR3.frozen o; simp only [List.getElem?_toArray, List.getElem?_cons_zero, List.getElem?_cons_succ] at v0 v1 v2; have hsb := hs.out)
          obtain ⟨c9, q9⟩ := qR3.set3 (.bool false) (.slice none 0 0) (.slice none 0 0)
          have z0 := q9.cell 0
          have z1 := q9.cell 1
          have z2 := q9.cell 2
          simp only [List.getElem?_toArray, List.getElem?_cons_zero, List.getElem?_cons_succ] at z0 z1 z2
          have b9 := (bW.trans (b3.mono bW.size)).trans (c9.below (Nat.le_refl _))
          clear v0 v1 v2
          refine bodyPost_ret (v := .tuple #[.agg #[.bool false, .slice none 0 0, .slice none 0 0], .int .i64 1]) (by rw [results_ct rfl]; go_simp) rfl ?_
          exact Or.inr ⟨fun h => absurd (h.2 k hk1 hlt) (by have := HV.out; omega), rfl, b9⟩
        · have hs := hide' (show (decide (sgn (q k).val < 1)) = false by rw [decide_eq_false_iff_not]; exact fun h => hv (sgn_lt.1 h))
          have HV := hide' hv
          clear hv
          go_wp2_with (go_at_call 14; refine GS.out.mono ?_; rintro e w3 ⟨rfl, b3⟩; have qR3 := qR1.later b3; have v0 := qR3.cell 0; have v1 := qR3.cell 1; have v2 := qR3.cell 2; have fz := fun o => qR3.frozen o; simp only [List.getElem?_toArray, List.getElem?_cons_zero, List.getElem?_cons_succ] at v0 v1 v2; have hsb := hs.out)
          go_roundw
          case rel => exact ⟨k + 1, by omega, by omega, by simp, fun i h1 h2 => (by rcases Nat.lt_or_ge i k with h3 | h3; (exact HP.out i h1 h3); (obtain rfl : i = k := (by omega); have := HV.out; omega)), hB.trans (b3.mono hB.size)⟩
          case measure => simp [intOf]; omega
      · obtain rfl : k = len := by omega
        have hgd : gd q k := ⟨by omega, fun i h1 h2 => HP.out i h1 h2⟩
        obtain ⟨y0, y1⟩ := HC.out (k - 1) (by omega)
        replace y0 := below_cell bW y0
        replace y1 := below_cell bW y1
        have okk := HQ.out (k - 1) (by omega)
        obtain ⟨P0, hP0⟩ : ∃ P : Int, (q (k - 1)).val = P := ⟨_, rfl⟩
        obtain ⟨Q0, hQ0⟩ : ∃ Q : Int, Q = 1 := ⟨_, rfl⟩
        have GI' : Calls Try.prog 15 #[.agg #[.bool (q (k - 1)).s, .slice (q (k - 1)).a (q (k - 1)).n (q (k - 1)).c]] wr fun e w' => ∃ p pq, e = .returned (.agg #[.bool (ng P0), .slice p (ln (am P0)) (ln (am P0)), .slice pq (ln (am Q0)) (ln (am Q0))]) ∧ Below wr.heap.size wr w' ∧ Seg w' p (am P0) (ln (am P0)) ∧ Seg w' pq (am Q0) (ln (am Q0)) := by
          subst hQ0
          exact vqIntR_is (q (k - 1)).s (q (k - 1)).a (q (k - 1)).n (q (k - 1)).c (q (k - 1)).X P0 hP0 wr (by have := okk.2.2; omega) (okk.1.later bW)
        have hd0 : cpq (dl q k (k - 1)) = (P0, Q0) := by
          rw [dl_cons q (show k - 1 < k by omega), show k - 1 + 1 = k by omega, dl_end, hP0, hQ0]
          simp [cpq]
        have GI := hide' GI'
        have HD0 := hide' hd0
        clear GI' hd0 hP0 hQ0
        have hkb : ((k : Int) - 1).toNat = k - 1 := by omega
        go_wp2_with (go_at_call 15; refine GI.out.mono ?_; rintro e w3 ⟨p, pq, rfl, b3, k1, k2⟩)
        have bV := below_alloc (w := w3) (.cells #[.bool (ng P0), .slice p (ln (am P0)) (ln (am P0)), .slice pq (ln (am Q0)) (ln (am Q0))] 29)
        have q5 := Blk.new w3 #[.bool (ng P0), .slice p (ln (am P0)) (ln (am P0)), .slice pq (ln (am Q0)) (ln (am Q0))] 29
        replace k1 := k1.later bV
        replace k2 := k2.later bV
        have qR2 := (qR1.later b3).later bV
        have bX := bW.trans ((b3.trans (bV.mono b3.size)).mono bW.size)
        have hcl := qR1.later b3
        replace hcl := hcl.lt
        obtain ⟨WB, hWB⟩ : ∃ WB, w3.alloc (.cells #[.bool (ng P0), .slice p (ln (am P0)) (ln (am P0)), .slice pq (ln (am Q0)) (ln (am Q0))] 29) = WB := ⟨_, rfl⟩
        rw [hWB] at q5 k1 k2 qR2 bX ⊢
        obtain ⟨c5, hc5⟩ : ∃ c5, w3.heap.size = c5 := ⟨_, rfl⟩
        rw [hc5] at q5 hcl ⊢
        have HG := hide' hgd
        clear hWB hc5 bV GI okk y0 y1 hgd b3 w3 qR1 bW hB HP
        go_loopw [6] (fun vi wr => ∃ (j : Nat) (P Q : Int) (pa pb : Option Addr), j + 1 ≤ k ∧ vi = .int .i64 ((j : Int) - 1) ∧ cpq (dl q k j) = (P, Q) ∧ Blk wr c5 #[.bool (ng P), .slice pa (ln (am P)) (ln (am P)), .slice pb (ln (am Q)) (ln (am Q))] 29 ∧ Seg wr pa (am P) (ln (am P)) ∧ Seg wr pb (am Q) (ln (am Q)) ∧ Blk wr w.heap.size #[.bool false, .slice none 0 0, .slice none 0 0] 29 ∧ Below w.heap.size w wr) (fun vi _ => (intOf vi + 1).toNat)
        case atStart => exact ⟨k - 1, P0, Q0, p, pq, by omega, by congr 1; omega, HD0.out, q5, k1, k2, qR2, bX⟩
        case round =>
          obtain ⟨j, P, Q, pa, pb, hj, rfl, hPQ, q5, k1, k2, qR2, bX⟩ := hrel
          clear HD0
          have x0 := q5.cell 0
          have x1 := q5.cell 1
          have x2 := q5.cell 2
          simp only [List.getElem?_toArray, List.getElem?_cons_zero, List.getElem?_cons_succ] at x0 x1 x2
          have fz := fun o => q5.frozen o
          by_cases hj0 : j = 0
          · subst hj0
            have v0 := qR2.cell 0
            have v1 := qR2.cell 1
            have v2 := qR2.cell 2
            simp only [List.getElem?_toArray, List.getElem?_cons_zero, List.getElem?_cons_succ] at v0 v1 v2
            have fr := fun o => qR2.frozen o
            go_wp2
            obtain ⟨c9, q9⟩ := qR2.set3 (.bool (ng P)) (.slice pa (ln (am P)) (ln (am P))) (.slice pb (ln (am Q)) (ln (am Q)))
            have hno := qR2.no (by simp)
            have z0 := q9.cell 0
            have z1 := q9.cell 1
            have z2 := q9.cell 2
            simp only [List.getElem?_toArray, List.getElem?_cons_zero, List.getElem?_cons_succ] at z0 z1 z2
            clear v0 v1 v2
            refine bodyPost_ret (v := .tuple #[.agg #[.bool (ng P), .slice pa (ln (am P)) (ln (am P)), .slice pb (ln (am Q)) (ln (am Q))], .int .i64 0]) (by rw [results_ct rfl]; go_simp) rfl ?_
            exact Or.inl ⟨HG.out, P, Q, pa, pb, hPQ, rfl, bX.trans (c9.below (Nat.le_refl _)), k1.ch c9 hno, k2.ch c9 hno⟩
          · have hpos := dl_pos q HG.out (k := j) (by omega)
            have hdc := dl_cons q (show j < k by omega)
            have hP : 0 < P := by have := (cpq_pos _ hpos).1; rw [hPQ] at this; exact this
            have hQ : 0 < Q := by
              have := cpq_den (x := (q j).val) (l := dl q k (j + 1)) (fun y hy => hpos y (by rw [hdc]; exact List.mem_cons_of_mem _ hy))
              rw [← hdc, hPQ] at this
              exact this
            have hcop : Nat.gcd (am P) (am Q) = 1 := by have := cpq_cop (dl q k j); rw [hPQ] at this; exact this
            have haP : ((am P : Nat) : Int) = P := by unfold am; omega
            have haQ : ((am Q : Nat) : Int) = Q := by unfold am; omega
            have hnP : 0 < am P := by unfold am; omega
            have hnQ : 0 < am Q := by unfold am; omega
            obtain ⟨d1, d2⟩ := HD.out j (by omega)
            rw [hPQ] at d1 d2
            dsimp only at d1 d2
            have lP := ln_le_of_lt d1
            have lQ := ln_le_of_lt d2
            have hW := HW.out
            have GV := hide' (vqInv_is (ng P) pa (ln (am P)) (ln (am P)) (am P) pb (ln (am Q)) (ln (am Q)) (am Q) Q (am P) wr (Nat.le_refl _) (by omega) k1 (Nat.le_refl _) (by omega) k2 (by
              rw [rn_nf hnQ, rd_nf hnQ, haQ]
              exact ⟨by omega, hnP, by rw [haP], by rw [Nat.gcd_comm]; exact hcop⟩))
            obtain ⟨X1, hX1⟩ : ∃ X1, (q (j - 1)).val = X1 := ⟨_, rfl⟩
            obtain ⟨O1, hO1⟩ : ∃ O1 : Int, O1 = 1 := ⟨_, rfl⟩
            obtain ⟨N1, hN1⟩ : ∃ N1, X1 * P + Q = N1 := ⟨_, rfl⟩
            have hnew : cpq (dl q k (j - 1)) = (N1, P) := by
              rw [dl_cons q (show j - 1 < k by omega), show j - 1 + 1 = j by omega, hX1]
              show ((X1 * (cpq (dl q k j)).1 + (cpq (dl q k j)).2, (cpq (dl q k j)).1) : Int × Int) = _
              rw [hPQ, hN1]
            have hcop2 : Nat.gcd (am N1) (am P) = 1 := by have := cpq_cop (dl q k (j - 1)); rw [hnew] at this; exact this
            have okk := HQ.out (j - 1) (by omega)
            have lX : ln (am X1) ≤ 1048576 := by rw [← hX1]; unfold IV.val; rw [am_sg]; have := ln_le_of_lt okk.1.1; have := okk.2.2; omega
            have GI' : ∀ w', Seg w' (q (j - 1)).a (q (j - 1)).X (q (j - 1)).n → Calls Try.prog 15 #[.agg #[.bool (q (j - 1)).s, .slice (q (j - 1)).a (q (j - 1)).n (q (j - 1)).c]] w' fun e w'' => ∃ p pq, e = .returned (.agg #[.bool (ng X1), .slice p (ln (am X1)) (ln (am X1)), .slice pq (ln (am O1)) (ln (am O1))]) ∧ Below w'.heap.size w' w'' ∧ Seg w'' p (am X1) (ln (am X1)) ∧ Seg w'' pq (am O1) (ln (am O1)) := fun w' kk => by
              subst hO1
              exact vqIntR_is (q (j - 1)).s (q (j - 1)).a (q (j - 1)).n (q (j - 1)).c (q (j - 1)).X X1 hX1 w' (by have := okk.2.2; omega) kk
            have GA' : ∀ w' pi qi pc pd, Seg w' pi (am X1) (ln (am X1)) → Seg w' qi (am O1) (ln (am O1)) → Seg w' pc (am Q) (ln (am Q)) → Seg w' pd (am P) (ln (am P)) → Calls Try.prog 17 #[.agg #[.bool (ng X1), .slice pi (ln (am X1)) (ln (am X1)), .slice qi (ln (am O1)) (ln (am O1))], .agg #[.bool (ng Q), .slice pc (ln (am Q)) (ln (am Q)), .slice pd (ln (am P)) (ln (am P))]] w' fun e w'' => ∃ pe pf, e = .returned (.agg #[.bool (ng N1), .slice pe (ln (am N1)) (ln (am N1)), .slice pf (ln (am P)) (ln (am P))]) ∧ Below w'.heap.size w' w'' ∧ Seg w'' pe (am N1) (ln (am N1)) ∧ Seg w'' pf (am P) (ln (am P)) := fun w' pi qi pc pd g1 g2 g3 g4 => by
              have e1 : am O1 = 1 := by rw [hO1]; rfl
              have l1 : ln (am O1) ≤ 1 := by rw [e1, ln_one]; exact Nat.le_refl _
              refine (vqAdd_is (ng X1) pi (ln (am X1)) (ln (am X1)) (am X1) qi (ln (am O1)) (ln (am O1)) (am O1) (ng Q) pc (ln (am Q)) (ln (am Q)) (am Q) pd (ln (am P)) (ln (am P)) (am P) N1 (am P) w' (Nat.le_refl _) (by omega) g1 (Nat.le_refl _) (by omega) g2 (Nat.le_refl _) (by omega) g3 (Nat.le_refl _) (by omega) g4 ?_).mono ?_
              · rw [rn_nf (show 0 < am O1 by omega), rn_nf hnP, rd_nf hnP, rd_nf (show 0 < am O1 by omega), e1, haP]
                refine ⟨?_, hnP, ?_, hcop2⟩
                · show ((1 : Nat) : Int) * P ≠ 0
                  omega
                · rw [haP, ← hN1]
                  show (X1 * P + Q) * (((1 : Nat) : Int) * P) = (X1 * P + Q * ((1 : Nat) : Int)) * P
                  grind
              · rintro e w'' ⟨pe, pf, rfl, m1, m2⟩
                exact ⟨pe, pf, rfl, m1.below, m1.seg, m2.seg⟩
            have GI := hide' GI'
            have GA := hide' GA'
            have HN := hide' hnew
            have hjb : ((j : Int) - 1).toNat = j - 1 := by omega
            have hjl : (j : Int) - 1 < (k : Int) := by omega
            obtain ⟨y0, y1⟩ := HC.out (j - 1) (by omega)
            replace y0 := below_cell bX y0
            replace y1 := below_cell bX y1
            have kx := okk.1.later bX
            clear GI' GA' hnew hcop hcop2 d1 d2 hpos hdc haP haQ hnP hnQ hPQ hX1 hO1 hN1 lX lP lQ hW hP hQ
            have hlt5 := q5.lt
            go_wp2_with (go_at_call 16; refine GV.out.mono ?_; rintro e w4 ⟨pc, pd, rfl, m1, m2⟩; have b4 := m1.below; have q6 := q5.later b4; have f0 := q6.cell 0; have f1 := q6.cell 1; have f2 := q6.cell 2; have fw := fun o => q6.frozen o; simp only [List.getElem?_toArray, List.getElem?_cons_zero, List.getElem?_cons_succ] at f0 f1 f2)
            obtain ⟨c9, q9⟩ := q6.set3 (.bool (ng Q)) (.slice pc (ln (am Q)) (ln (am Q))) (.slice pd (ln (am P)) (ln (am P)))
            have hno := q6.no (by simp)
            have kc := m1.seg.ch c9 hno
            have kd := m2.seg.ch c9 hno
            replace kx := (kx.later b4).ch c9 hno
            have qR3 := (qR2.later b4).ch c9 (by omega)
            replace y0 := (World.cell?_of_block (w := w4) (a := ⟨b, off + (j - 1) * 2, none⟩) (c9.other b (by have := hbl; omega))).trans (below_cell b4 y0)
            replace y1 := (World.cell?_of_block (w := w4) (a := ⟨b, off + (j - 1) * 2 + 1, none⟩) (c9.other b (by have := hbl; omega))).trans (below_cell b4 y1)
            have bZ := (bX.trans (b4.mono bX.size)).trans (c9.below (by omega))
            obtain ⟨W5, hW5⟩ : ∃ W5, ((w4.setCell ⟨c5, 0, none⟩ (.bool (ng Q))).setCell ⟨c5, 1, none⟩ (.slice pc (ln (am Q)) (ln (am Q)))).setCell ⟨c5, 2, none⟩ (.slice pd (ln (am P)) (ln (am P))) = W5 := ⟨_, rfl⟩
            rw [hW5] at q9 kc kd kx qR3 y0 y1 bZ ⊢
            clear hW5 hno c9 m1 m2 f0 f1 f2 fw q6 b4 x0 x1 x2 fz q5 k1 k2 qR2 bX GV okk hlt5
            have bD : Below W5.heap.size W5 W5.drew := (Below.refl _ _).drew
            have ky0 := below_cell bD y0
            have ky1 := below_cell bD y1
            replace bZ := bZ.trans (bD.mono bZ.size)
            replace kx := kx.later bD
            replace kc := kc.later bD
            replace kd := kd.later bD
            replace q9 := q9.later bD
            replace qR3 := qR3.later bD
            refine wp_region_held_drew (S := fun w' => w'.cell? ⟨b, off + (j - 1) * 2, none⟩ = some (.bool (q (j - 1)).s) ∧ w'.cell? ⟨b, off + (j - 1) * 2 + 1, none⟩ = some (.slice (q (j - 1)).a (q (j - 1)).n (q (j - 1)).c)) (by kernel_rfl) ⟨ky0, ky1⟩ (fun hHeld => ?_)
            clear ky0 ky1
            generalize W5.drew = wG0 at bD kx kc kd q9 qR3 bZ hHeld ⊢
            clear bD y0 y1
            refine take' 0 (v := ?_) rfl (by kernel_rfl) (by kernel_rfl) (by kernel_rfl) (fun _ _ _ h => h) (Or.inl ⟨by rfl, ?_⟩) (by assumption) ?_
            rotate_left
            · intro w9 hSw
              go_simp
              first | done | with_reducible rfl
            simp only [Act.put, List.setIfInBounds_toArray, List.set_cons_zero, List.set_cons_succ]
            refine take' 1 (v := ?_) rfl (by kernel_rfl) (by kernel_rfl) (by kernel_rfl) (fun _ _ _ h => h) (Or.inl ⟨by rfl, ?_⟩) (by assumption) ?_
            rotate_left
            · intro w9 hSw
              go_simp
              first | done | with_reducible rfl
            simp only [Act.put, List.setIfInBounds_toArray, List.set_cons_zero, List.set_cons_succ]
            refine take' 2 (v := ?_) rfl (by kernel_rfl) (by kernel_rfl) (by kernel_rfl) (fun _ _ _ h => h) (Or.inl ⟨by rfl, ?_⟩) (by assumption) ?_
            rotate_left
            · intro w9 hSw
              go_simp
              first | done | with_reducible rfl
            simp only [Act.put, List.setIfInBounds_toArray, List.set_cons_zero, List.set_cons_succ]
            refine take' 3 (v := ?_) rfl (by kernel_rfl) (by kernel_rfl) (by kernel_rfl) (fun _ _ _ h => h) (Or.inl ⟨by rfl, ?_⟩) (by assumption) ?_
            rotate_left
            · intro w9 hSw
              go_simp
              first | done | with_reducible rfl
            simp only [Act.put, List.setIfInBounds_toArray, List.set_cons_zero, List.set_cons_succ]
            refine wpAnyH_ready (rs := [4, 5]) (by kernel_rfl) (by simp) ?_
            refine consT rfl (fun KK hKK => ?_) ?_
            · skip
              go_simp
              refine (GI.out _ kx).mono ?_
              rintro e wG1 ⟨pi, qi, rfl, bV, ki, kj⟩
              have bC := bV
              replace bZ := bZ.trans (bC.mono bZ.size)
              replace kx := kx.later bC
              replace kc := kc.later bC
              replace kd := kd.later bC
              replace q9 := q9.later bC
              replace qR3 := qR3.later bC
              replace hHeld := (⟨below_cell bC hHeld.1, below_cell bC hHeld.2⟩ : _ ∧ _)
              clear bC
              go_wp2_with fail
              clear bV
              refine hKK.out _ _ hHeld ?_
              clear hHeld
              intro hHeld
              clear hKK KK
              try simp only [Act.put, List.setIfInBounds_toArray, List.set_cons_zero, List.set_cons_succ]
              refine wpAnyH_ready (rs := [5]) (by kernel_rfl) (by simp) ?_
              refine cons' rfl (fun KK hKK => ?_)
              have x0 := q9.cell 0
              have x1 := q9.cell 1
              have x2 := q9.cell 2
              simp only [List.getElem?_toArray, List.getElem?_cons_zero, List.getElem?_cons_succ] at x0 x1 x2
              go_simp
              clear x0 x1 x2
              refine hKK.out _ _ hHeld ?_
              clear hHeld
              intro hHeld
              clear hKK KK
              try simp only [Act.put, List.setIfInBounds_toArray, List.set_cons_zero, List.set_cons_succ]
              refine wpAnyH_ready (rs := [6]) (by kernel_rfl) (by simp) ?_
              refine cons' rfl (fun KK hKK => ?_)
              go_simp
              refine (GA.out _ pi qi pc pd ki kj kc kd).mono ?_
              rintro e wG2 ⟨pe, pf, rfl, bV, ke, kf⟩
              have bC := bV
              replace bZ := bZ.trans (bC.mono bZ.size)
              replace kx := kx.later bC
              replace kc := kc.later bC
              replace kd := kd.later bC
              replace q9 := q9.later bC
              replace qR3 := qR3.later bC
              replace ki := ki.later bC
              replace kj := kj.later bC
              replace hHeld := (⟨below_cell bC hHeld.1, below_cell bC hHeld.2⟩ : _ ∧ _)
              clear bC
              go_wp2_with fail
              clear bV
              refine hKK.out _ _ hHeld ?_
              clear hHeld
              intro hHeld
              clear hKK KK
              try simp only [Act.put, List.setIfInBounds_toArray, List.set_cons_zero, List.set_cons_succ]
              refine wpAnyH_ready (rs := [7]) (by kernel_rfl) (by simp) ?_
              refine cons' rfl (fun KK hKK => ?_)
              have x0 := q9.cell 0
              have x1 := q9.cell 1
              have x2 := q9.cell 2
              simp only [List.getElem?_toArray, List.getElem?_cons_zero, List.getElem?_cons_succ] at x0 x1 x2
              have fw := fun o => q9.frozen o
              obtain ⟨c8, q8⟩ := q9.set3 (.bool (ng N1)) (.slice pe (ln (am N1)) (ln (am N1))) (.slice pf (ln (am P)) (ln (am P)))
              have hno := q9.no (by simp)
              have te := ke.ch c8 hno
              have tf := kf.ch c8 hno
              have qR4 := qR3.ch c8 (by omega)
              have bY := bZ.trans (c8.below (by omega))
              have hH2 := (⟨(World.cell?_of_block (w := wG2) (a := ⟨b, off + (j - 1) * 2, none⟩) (c8.other b (by have := hbl; omega))).trans hHeld.1, (World.cell?_of_block (w := wG2) (a := ⟨b, off + (j - 1) * 2 + 1, none⟩) (c8.other b (by have := hbl; omega))).trans hHeld.2⟩ : _ ∧ _)
              clear hno c8
              go_simp
              clear x0 x1 x2 fw q9
              refine hKK.out _ _ hH2 ?_
              clear hHeld
              intro hHeld
              clear hKK KK
              try simp only [Act.put, List.setIfInBounds_toArray, List.set_cons_zero, List.set_cons_succ]
              clear hH2
              refine wpAnyH_done (by kernel_rfl) ?_ _
              go_wp2_with fail
              go_roundw
              case rel => exact ⟨j - 1, N1, P, pe, pf, by omega, by congr 1; omega, HN.out, q8, te, tf, qR4, bY⟩
              case measure => simp [intOf]; omega
            refine consT rfl (fun KK hKK => ?_) ?_
            · skip
              have x0 := q9.cell 0
              have x1 := q9.cell 1
              have x2 := q9.cell 2
              simp only [List.getElem?_toArray, List.getElem?_cons_zero, List.getElem?_cons_succ] at x0 x1 x2
              go_simp
              clear x0 x1 x2
              refine hKK.out _ _ hHeld ?_
              clear hHeld
              intro hHeld
              clear hKK KK
              try simp only [Act.put, List.setIfInBounds_toArray, List.set_cons_zero, List.set_cons_succ]
              refine wpAnyH_ready (rs := [4]) (by kernel_rfl) (by simp) ?_
              refine cons' rfl (fun KK hKK => ?_)
              go_simp
              refine (GI.out _ kx).mono ?_
              rintro e wG3 ⟨pi, qi, rfl, bV, ki, kj⟩
              have bC := bV
              replace bZ := bZ.trans (bC.mono bZ.size)
              replace kx := kx.later bC
              replace kc := kc.later bC
              replace kd := kd.later bC
              replace q9 := q9.later bC
              replace qR3 := qR3.later bC
              replace hHeld := (⟨below_cell bC hHeld.1, below_cell bC hHeld.2⟩ : _ ∧ _)
              clear bC
              go_wp2_with fail
              clear bV
              refine hKK.out _ _ hHeld ?_
              clear hHeld
              intro hHeld
              clear hKK KK
              try simp only [Act.put, List.setIfInBounds_toArray, List.set_cons_zero, List.set_cons_succ]
              refine wpAnyH_ready (rs := [6]) (by kernel_rfl) (by simp) ?_
              refine cons' rfl (fun KK hKK => ?_)
              go_simp
              refine (GA.out _ pi qi pc pd ki kj kc kd).mono ?_
              rintro e wG4 ⟨pe, pf, rfl, bV, ke, kf⟩
              have bC := bV
              replace bZ := bZ.trans (bC.mono bZ.size)
              replace kx := kx.later bC
              replace kc := kc.later bC
              replace kd := kd.later bC
              replace q9 := q9.later bC
              replace qR3 := qR3.later bC
              replace ki := ki.later bC
              replace kj := kj.later bC
              replace hHeld := (⟨below_cell bC hHeld.1, below_cell bC hHeld.2⟩ : _ ∧ _)
              clear bC
              go_wp2_with fail
              clear bV
              refine hKK.out _ _ hHeld ?_
              clear hHeld
              intro hHeld
              clear hKK KK
              try simp only [Act.put, List.setIfInBounds_toArray, List.set_cons_zero, List.set_cons_succ]
              refine wpAnyH_ready (rs := [7]) (by kernel_rfl) (by simp) ?_
              refine cons' rfl (fun KK hKK => ?_)
              have x0 := q9.cell 0
              have x1 := q9.cell 1
              have x2 := q9.cell 2
              simp only [List.getElem?_toArray, List.getElem?_cons_zero, List.getElem?_cons_succ] at x0 x1 x2
              have fw := fun o => q9.frozen o
              obtain ⟨c8, q8⟩ := q9.set3 (.bool (ng N1)) (.slice pe (ln (am N1)) (ln (am N1))) (.slice pf (ln (am P)) (ln (am P)))
              have hno := q9.no (by simp)
              have te := ke.ch c8 hno
              have tf := kf.ch c8 hno
              have qR4 := qR3.ch c8 (by omega)
              have bY := bZ.trans (c8.below (by omega))
              have hH2 := (⟨(World.cell?_of_block (w := wG4) (a := ⟨b, off + (j - 1) * 2, none⟩) (c8.other b (by have := hbl; omega))).trans hHeld.1, (World.cell?_of_block (w := wG4) (a := ⟨b, off + (j - 1) * 2 + 1, none⟩) (c8.other b (by have := hbl; omega))).trans hHeld.2⟩ : _ ∧ _)
              clear hno c8
              go_simp
              clear x0 x1 x2 fw q9
              refine hKK.out _ _ hH2 ?_
              clear hHeld
              intro hHeld
              clear hKK KK
              try simp only [Act.put, List.setIfInBounds_toArray, List.set_cons_zero, List.set_cons_succ]
              clear hH2
              refine wpAnyH_done (by kernel_rfl) ?_ _
              go_wp2_with fail
              go_roundw
              case rel => exact ⟨j - 1, N1, P, pe, pf, by omega, by congr 1; omega, HN.out, q8, te, tf, qR4, bY⟩
              case measure => simp [intOf]; omega
            exact AllReadyH.nil
end Go.Proofs.Ytabchggnalbbcaa
