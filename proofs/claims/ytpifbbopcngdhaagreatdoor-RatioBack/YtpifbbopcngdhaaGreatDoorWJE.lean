/-
  Fold of what Expand tells.
-/
import Derived.Test.YtpifbbopcngdhaaGreatDoorWJ8
import Derived.Test.YtpifbbopcngdhaaGreatDoorWI4
import Derived.Test.YtpifbbopcngdhaaGreatDoorWIm
import Derived.Test.YtpifbbopcngdhaaGreatDoorWQ7
import Derived.Test.YtpifbbopcngdhaaGreatDoorWIA
import Derived.Test.YtpifbbopcngdhaaGreatDoorWQA
import Derived.Test.YtpifbbopcngdhaaGreatDoorWJ4
import Derived.Test.YtpifbbopcngdhaaGreatDoorWQ5
namespace Go.Proofs.YtpifbbopcngdhaaGreatDoor
open Go.RowKit
set_option linter.unusedVariables false
set_option linter.unusedSimpArgs false

/-- a list that is a continued fraction -/
def gd (q : Nat → IV) (len : Nat) : Prop := 0 < len ∧ ∀ i, 1 ≤ i → i < len → 0 < (q i).val
theorem sgn_lt {Z : Int} : sgn Z < 1 ↔ Z ≤ 0 := by
  unfold sgn
  by_cases h : Z < 0
  · simp [h]; omega
  · by_cases h2 : Z = 0
    · simp [h2]
    · simp [h, h2]; omega

set_option maxRecDepth 100000 in
set_option maxHeartbeats 1000000 in
theorem valuesOf_is (a : Option Addr) (len cap : Nat) (w : World) :
    Calls Tryz.prog 24 #[.slice a len cap] w fun e w' => e = .returned (.func (.func 42) #[] #[.pointer (some ⟨w.heap.size, 0, none⟩)]) ∧ w' = w.alloc (.cells #[.slice a len cap] 34) := by
  go_enter Tryz.func24, Tryz.ntmps24
  go_wp2
  go_ret
  exact ⟨rfl, rfl⟩

set_option maxRecDepth 100000 in
set_option maxHeartbeats 8000000 in
theorem qFold_is (a : Option Addr) (len cap : Nat) (q : Nat → IV) (w : World) (hI : IntsAt w a len q) (hq : ∀ i, i < len → (q i).ok w) (hcap : len ≤ cap) (hl : len ≤ 8589934592) (hw : wsum (upq q len) ≤ 1099511627776) :
    Calls Tryz.prog 9 #[.slice a len cap] w fun e w' => (gd q len ∧ ∃ P Q pa pb, cpq ((upq q len).map IV.val) = (P, Q) ∧ e = .returned (.tuple #[.agg #[.bool (ng P), .slice pa (ln (am P)) (ln (am P)), .slice pb (ln (am Q)) (ln (am Q))], .int .i64 0]) ∧ Below w.heap.size w w' ∧ Seg w' pa (am P) (ln (am P)) ∧ Seg w' pb (am Q) (ln (am Q))) ∨ (¬ gd q len ∧ e = .returned (.tuple #[.agg #[.bool false, .slice none 0 0, .slice none 0 0], .int .i64 1]) ∧ Below w.heap.size w w') := by
  have bA := below_alloc (w := w) (.cells #[.bool false, .slice none 0 0, .slice none 0 0] 27)
  have qR := Blk.new w #[.bool false, .slice none 0 0, .slice none 0 0] 27
  by_cases h0 : len = 0
  · subst h0
    have hng : ¬ gd q 0 := fun h => absurd h.1 (by omega)
    go_enter Tryz.func9, Tryz.ntmps9
    go_wp2
    refine bodyPost_ret (v := .tuple #[.agg #[.bool false, .slice none 0 0, .slice none 0 0], .int .i64 1]) (by rw [results_ct rfl]; go_simp) rfl ?_
    exact Or.inr ⟨hng, rfl, bA⟩
  · obtain ⟨b, off, rfl, hbl, hcl⟩ := hI (by omega)
    have HC := hide' hcl
    have HI := hide' hI
    have HQ := hide' hq
    have HW := hide' hw
    clear hcl hI hq hw
    have hlb : (((len : Nat) : Int) == 0) = false := by rw [beq_eq_false_iff_ne]; omega
    obtain ⟨WA, hWA⟩ : ∃ WA, w.alloc (.cells #[.bool false, .slice none 0 0, .slice none 0 0] 27) = WA := ⟨_, rfl⟩
    by_cases hcp : cap = 1
    · subst hcp
      go_enter Tryz.func9, Tryz.ntmps9
      go_wp2_with fail
      rw [hWA] at bA qR
      clear hWA hlb
      go_loopw [13] (fun vi wr => ∃ k : Nat, k ≤ len - 1 ∧ vi = .int .i64 k ∧ (∀ i, 1 ≤ i → i ≤ k → 0 < (q i).val) ∧ Below WA.heap.size WA wr) (fun vi _ => len - (intOf vi).toNat)
      case atStart => exact ⟨0, Nat.zero_le _, rfl, fun i h1 h2 => absurd h1 (by omega), Below.refl _ _⟩
      case round =>
        obtain ⟨k, hk, rfl, hpos, hB⟩ := hrel
        have HP := hide' hpos
        clear hpos
        have bW := bA.trans (hB.mono bA.size)
        have qR1 := qR.later hB
        by_cases hlt : k < len - 1
        · exact absurd hlt (by omega)
        · have hgd : gd q len := ⟨by omega, fun i h1 h2 => HP.out i h1 (by omega)⟩
          have bV := below_alloc (w := wr) (.cells #[.slice (some ⟨b, off, none⟩) len 1] 34)
          have bY := bW.trans (bV.mono bW.size)
          have GV := hide' (valuesOf_is (some ⟨b, off, none⟩) len 1 wr)
          have GW := hide' (value_is (wr.alloc (.cells #[.slice (some ⟨b, off, none⟩) len 1] 34)) wr.heap.size (some ⟨b, off, none⟩) len 1 q (by go_simp) (HI.out.below bY) (fun i hi => ⟨(HQ.out i hi).1.later bY, (HQ.out i hi).2⟩) hcap (by omega) HW.out)
          have qR2 := qR1.later bV
          go_wp2_with (first | (go_at_call 24; refine GV.out.mono ?_; rintro e w4 ⟨rfl, rfl⟩) | (go_at_call 23; refine GW.out.mono ?_; rintro e w5 ⟨P, Q, pa, pb, hPQ, rfl, b5, ka, kb⟩; have qR3 := qR2.later b5; have v0 := qR3.cell 0; have v1 := qR3.cell 1; have v2 := qR3.cell 2; have fz := fun o => qR3.frozen o; simp only [List.getElem?_toArray, List.getElem?_cons_zero, List.getElem?_cons_succ] at v0 v1 v2))
          obtain ⟨c9, q9⟩ := qR3.set3 (.bool (ng P)) (.slice pa (ln (am P)) (ln (am P))) (.slice pb (ln (am Q)) (ln (am Q)))
          have hno := qR3.no (by simp)
          have z0 := q9.cell 0
          have z1 := q9.cell 1
          have z2 := q9.cell 2
          simp only [List.getElem?_toArray, List.getElem?_cons_zero, List.getElem?_cons_succ] at z0 z1 z2
          have b9 := (bY.trans (b5.mono bY.size)).trans (c9.below (Nat.le_refl _))
          clear v0 v1 v2
          refine bodyPost_ret (v := .tuple #[.agg #[.bool (ng P), .slice pa (ln (am P)) (ln (am P)), .slice pb (ln (am Q)) (ln (am Q))], .int .i64 0]) (by rw [results_ct rfl]; go_simp) rfl ?_
          exact Or.inl ⟨hgd, P, Q, pa, pb, hPQ, rfl, b9, ka.ch c9 hno, kb.ch c9 hno⟩
    · skip
      go_enter Tryz.func9, Tryz.ntmps9
      go_wp2_with fail
      rw [hWA] at bA qR
      clear hWA hlb
      go_loopw [13] (fun vi wr => ∃ k : Nat, k ≤ len - 1 ∧ vi = .int .i64 k ∧ (∀ i, 1 ≤ i → i ≤ k → 0 < (q i).val) ∧ Below WA.heap.size WA wr) (fun vi _ => len - (intOf vi).toNat)
      case atStart => exact ⟨0, Nat.zero_le _, rfl, fun i h1 h2 => absurd h1 (by omega), Below.refl _ _⟩
      case round =>
        obtain ⟨k, hk, rfl, hpos, hB⟩ := hrel
        have HP := hide' hpos
        clear hpos
        have bW := bA.trans (hB.mono bA.size)
        have qR1 := qR.later hB
        by_cases hlt : k < len - 1
        · obtain ⟨y0, y1⟩ := HC.out (k + 1) (by omega)
          rw [show off + (k + 1) * 2 = off + 2 + k * 2 by omega] at y0 y1
          replace y0 := below_cell bW y0
          replace y1 := below_cell bW y1
          have okk := HQ.out (k + 1) (by omega)
          have bX := below_alloc (w := wr) (.cells #[.bool (q (k + 1)).s, .slice (q (k + 1)).a (q (k + 1)).n (q (k + 1)).c] 25)
          have qR2 := qR1.later bX
          have GS := hide' (wSign_is (q (k + 1)).s (q (k + 1)).a (q (k + 1)).n (q (k + 1)).c (q (k + 1)).X (q (k + 1)).val _ okk.2.1 (by have := okk.2.2; omega) ((okk.1.later bW).later bX) rfl)
          by_cases hv : (q (k + 1)).val ≤ 0
          · have hs := hide' (show (decide (sgn (q (k + 1)).val < 1)) = true by rw [decide_eq_true_iff]; exact sgn_lt.2 hv)
            have HV := hide' hv
            clear hv
            go_wp2_with (go_at_call 22; refine GS.out.mono ?_; rintro e w3 ⟨rfl, b3⟩; have qR3 := qR2.later b3; have v0 := qR3.cell 0; have v1 := qR3.cell 1; have v2 := qR3.cell 2; have fz := fun o => qR3.frozen o; simp only [List.getElem?_toArray, List.getElem?_cons_zero, List.getElem?_cons_succ] at v0 v1 v2; have hsb := hs.out)
            obtain ⟨c9, q9⟩ := qR3.set3 (.bool false) (.slice none 0 0) (.slice none 0 0)
            have hno := qR3.no (by simp)
            have z0 := q9.cell 0
            have z1 := q9.cell 1
            have z2 := q9.cell 2
            simp only [List.getElem?_toArray, List.getElem?_cons_zero, List.getElem?_cons_succ] at z0 z1 z2
            have b9 := (bW.trans ((bX.trans (b3.mono bX.size)).mono bW.size)).trans (c9.below (Nat.le_refl _))
            clear v0 v1 v2
            refine bodyPost_ret (v := .tuple #[.agg #[.bool false, .slice none 0 0, .slice none 0 0], .int .i64 1]) (by rw [results_ct rfl]; go_simp) rfl ?_
            exact Or.inr ⟨fun h => absurd (h.2 (k + 1) (by omega) (by omega)) (by have := HV.out; omega), rfl, b9⟩
          · have hs := hide' (show (decide (sgn (q (k + 1)).val < 1)) = false by rw [decide_eq_false_iff_not]; exact fun h => hv (sgn_lt.1 h))
            have HV := hide' hv
            clear hv
            go_wp2_with (go_at_call 22; refine GS.out.mono ?_; rintro e w3 ⟨rfl, b3⟩; have qR3 := qR2.later b3; have v0 := qR3.cell 0; have v1 := qR3.cell 1; have v2 := qR3.cell 2; have fz := fun o => qR3.frozen o; simp only [List.getElem?_toArray, List.getElem?_cons_zero, List.getElem?_cons_succ] at v0 v1 v2; have hsb := hs.out)
            go_roundw
            case rel => exact ⟨k + 1, by omega, by simp, fun i h1 h2 => (by rcases Nat.lt_or_ge k i with h3 | h3; (obtain rfl : i = k + 1 := (by omega); have := HV.out; omega); exact HP.out i h1 (by omega)), hB.trans ((bX.trans (b3.mono bX.size)).mono hB.size)⟩
            case measure => simp [intOf]; omega
        · have hgd : gd q len := ⟨by omega, fun i h1 h2 => HP.out i h1 (by omega)⟩
          have bV := below_alloc (w := wr) (.cells #[.slice (some ⟨b, off, none⟩) len cap] 34)
          have bY := bW.trans (bV.mono bW.size)
          have GV := hide' (valuesOf_is (some ⟨b, off, none⟩) len cap wr)
          have GW := hide' (value_is (wr.alloc (.cells #[.slice (some ⟨b, off, none⟩) len cap] 34)) wr.heap.size (some ⟨b, off, none⟩) len cap q (by go_simp) (HI.out.below bY) (fun i hi => ⟨(HQ.out i hi).1.later bY, (HQ.out i hi).2⟩) hcap (by omega) HW.out)
          have qR2 := qR1.later bV
          go_wp2_with (first | (go_at_call 24; refine GV.out.mono ?_; rintro e w4 ⟨rfl, rfl⟩) | (go_at_call 23; refine GW.out.mono ?_; rintro e w5 ⟨P, Q, pa, pb, hPQ, rfl, b5, ka, kb⟩; have qR3 := qR2.later b5; have v0 := qR3.cell 0; have v1 := qR3.cell 1; have v2 := qR3.cell 2; have fz := fun o => qR3.frozen o; simp only [List.getElem?_toArray, List.getElem?_cons_zero, List.getElem?_cons_succ] at v0 v1 v2))
          obtain ⟨c9, q9⟩ := qR3.set3 (.bool (ng P)) (.slice pa (ln (am P)) (ln (am P))) (.slice pb (ln (am Q)) (ln (am Q)))
          have hno := qR3.no (by simp)
          have z0 := q9.cell 0
          have z1 := q9.cell 1
          have z2 := q9.cell 2
          simp only [List.getElem?_toArray, List.getElem?_cons_zero, List.getElem?_cons_succ] at z0 z1 z2
          have b9 := (bY.trans (b5.mono bY.size)).trans (c9.below (Nat.le_refl _))
          clear v0 v1 v2
          refine bodyPost_ret (v := .tuple #[.agg #[.bool (ng P), .slice pa (ln (am P)) (ln (am P)), .slice pb (ln (am Q)) (ln (am Q))], .int .i64 0]) (by rw [results_ct rfl]; go_simp) rfl ?_
          exact Or.inl ⟨hgd, P, Q, pa, pb, hPQ, rfl, b9, ka.ch c9 hno, kb.ch c9 hno⟩
end Go.Proofs.YtpifbbopcngdhaaGreatDoor

namespace Go.Proofs.YtpifbbopcngdhaaGreatDoor
open Go.RowKit
set_option linter.unusedVariables false

end Go.Proofs.YtpifbbopcngdhaaGreatDoor

namespace Go.Proofs.YtpifbbopcngdhaaGreatDoor
open Go.RowKit
set_option linter.unusedVariables false

end Go.Proofs.YtpifbbopcngdhaaGreatDoor

namespace Go.Proofs.YtpifbbopcngdhaaGreatDoor
open Go.RowKit
set_option linter.unusedVariables false

/-- Z is the greatest whole number not above A / D -/
structure Fl (A D Z G : Int) : Prop where
  eq : Z * D + G = A
  ge : 0 ≤ G
  lt : G < D
theorem Fl.am {A D Z G : Int} (h : Fl A D Z G) (hD : 0 < D) : am Z ≤ am A + 1 := by
  have h1 := h.eq
  have h2 := h.ge
  have h3 := h.lt
  unfold Proofs.YtpifbbopcngdhaaGreatDoor.am
  rcases Int.lt_or_le Z 0 with k | k
  · have e1 : Z * D ≤ Z * 1 := Int.mul_le_mul_of_nonpos_left (by omega) (by omega)
    have e2 : (Z + 1) * D ≤ (Z + 1) * 1 := Int.mul_le_mul_of_nonpos_left (by omega) (by omega)
    rw [Int.add_mul] at e2
    omega
  · have e1 : Z * 1 ≤ Z * D := Int.mul_le_mul_of_nonneg_left (by omega) k
    omega

theorem Fl.same {A D Z G A' D' Z' G' : Int} (h : Fl A D Z G) (hD : 0 < D) (h' : Fl A' D' Z' G') (hD' : 0 < D') (e : A' * D = A * D') : Z' = Z := by
  have h1 := h.eq
  have h2 := h'.eq
  have a1 := h.ge
  have a2 := h.lt
  have b1 := h'.ge
  have b2 := h'.lt
  -- both are within 1 of the same number
  have e2 : (Z' - Z) * (D * D') = G * D' - G' * D := by
    rw [← h1, ← h2] at e
    grind
  have c1 : 0 ≤ G * D' := Int.mul_nonneg a1 (by omega)
  have c2 : 0 ≤ G' * D := Int.mul_nonneg b1 (by omega)
  have c3 : G * D' < D * D' := Int.mul_lt_mul_of_pos_right a2 hD'
  have c4 : G' * D < D' * D := Int.mul_lt_mul_of_pos_right b2 hD
  have c5 : D' * D = D * D' := Int.mul_comm _ _
  have hp : 0 < D * D' := Int.mul_pos hD hD'
  rcases Int.lt_trichotomy (Z' - Z) 0 with k | k | k
  · have : (Z' - Z) * (D * D') ≤ (-1) * (D * D') := Int.mul_le_mul_of_nonneg_right (by omega) (by omega)
    omega
  · omega
  · have : 1 * (D * D') ≤ (Z' - Z) * (D * D') := Int.mul_le_mul_of_nonneg_right (by omega) (by omega)
    omega

end Go.Proofs.YtpifbbopcngdhaaGreatDoor

namespace Go.Proofs.YtpifbbopcngdhaaGreatDoor
open Go.RowKit
set_option linter.unusedVariables false
set_option linter.unusedSimpArgs false

theorem cpq_cf : ∀ (d : Nat) (n : Int), d ≠ 0 → (cpq (cf n d)).1 * (d : Int) = n * (cpq (cf n d)).2 ∧ 0 < (cpq (cf n d)).2 := by
  intro d
  induction d using Nat.strongRecOn with
  | _ d ih =>
    intro n hd
    have hdm := Int.mul_ediv_add_emod n (d : Int)
    by_cases h0 : n % (d : Int) = 0
    · rw [cf_end hd h0]
      rw [h0] at hdm
      refine ⟨?_, by simp [cpq]⟩
      show (n / (d : Int) * 1 + 0) * (d : Int) = n * 1
      grind
    · rw [cf_on hd h0]
      obtain ⟨m1, m2⟩ := mod_nat (n := n) hd
      obtain ⟨h1, h2⟩ := ih _ m2 (d : Int) (by omega)
      rw [m1] at h1
      show (n / (d : Int) * (cpq (cf (d : Int) (n % (d : Int)).toNat)).1 + (cpq (cf (d : Int) (n % (d : Int)).toNat)).2) * (d : Int) = n * (cpq (cf (d : Int) (n % (d : Int)).toNat)).1 ∧ 0 < (cpq (cf (d : Int) (n % (d : Int)).toNat)).1
      generalize cpq (cf (d : Int) (n % (d : Int)).toNat) = c at h1 h2 ⊢
      obtain ⟨P, Q⟩ := c
      have hr : 0 < n % (d : Int) := by have := Int.emod_nonneg n (show (d : Int) ≠ 0 by omega); omega
      show (n / (d : Int) * P + Q) * (d : Int) = n * P ∧ 0 < P
      have h1' : P * (n % (d : Int)) = (d : Int) * Q := h1
      have h2' : 0 < Q := h2
      constructor
      · have e : n = d * (n / (d : Int)) + n % (d : Int) := hdm.symm
        generalize n / (d : Int) = x at e ⊢
        generalize n % (d : Int) = y at e h1' hr
        subst e
        grind
      · have h3 : 0 < (d : Int) * Q := Int.mul_pos (by omega) h2'
        rw [← h1'] at h3
        rcases Int.lt_trichotomy P 0 with h | h | h
        · have := Int.mul_neg_of_neg_of_pos h hr
          omega
        · rw [h, Int.zero_mul] at h3
          omega
        · exact h
/-- the numbers behind the first are above 0 -/
theorem cf_pos : ∀ (d : Nat) (n : Int), d ≠ 0 → (d : Int) ≤ n → ∀ x ∈ cf n d, 0 < x := by
  intro d
  induction d using Nat.strongRecOn with
  | _ d ih =>
    intro n hd hn x hx
    have hq : 0 < n / (d : Int) := by have := (Int.le_ediv_iff_mul_le (a := 1) (b := n) (show (0 : Int) < d by omega)).2 (by omega); omega
    by_cases h0 : n % (d : Int) = 0
    · rw [cf_end hd h0] at hx
      obtain rfl := List.mem_singleton.1 hx
      exact hq
    · rw [cf_on hd h0] at hx
      obtain ⟨m1, m2⟩ := mod_nat (n := n) hd
      rcases List.mem_cons.1 hx with h | h
      · rw [h]; exact hq
      · exact ih _ m2 (d : Int) (by omega) (by omega) x h
theorem cf_tail_pos (d : Nat) (n : Int) (hd : d ≠ 0) : ∀ i, 1 ≤ i → i < (cf n d).length → 0 < (cf n d).getD i 0 := by
  intro i h1 h2
  by_cases h0 : n % (d : Int) = 0
  · rw [cf_end hd h0] at h2
    simp at h2
    omega
  · rw [cf_on hd h0] at h2 ⊢
    obtain ⟨m1, m2⟩ := mod_nat (n := n) hd
    obtain ⟨j, rfl⟩ : ∃ j, i = j + 1 := ⟨i - 1, by omega⟩
    simp only [List.length_cons] at h2
    have h3 : j < (cf (d : Int) (n % (d : Int)).toNat).length := by omega
    rw [show (n / (d : Int) :: cf (d : Int) (n % (d : Int)).toNat).getD (j + 1) 0 = (cf (d : Int) (n % (d : Int)).toNat)[j] by simp [List.getD, h3]]
    exact cf_pos _ _ (by omega) (by omega) _ (List.getElem_mem h3)

/-- how long they are together -/
def lpr : List Int → Nat
  | [] => 1
  | x :: l => max 1 (am x) * lpr l
def lsm : List Int → Nat
  | [] => 0
  | x :: l => (ln (am x) + 1) + lsm l
theorem lsm_le : ∀ l, BB ^ lsm l ≤ lpr l * BB ^ (2 * l.length)
  | [] => by simp [lsm, lpr]
  | x :: l => by
    have h1 := lsm_le l
    have h2 : BB ^ (ln (am x) + 1) ≤ max 1 (am x) * BB ^ 2 := by
      by_cases h0 : am x = 0
      · rw [h0, ln_zero]
        have : BB ^ (0 + 1) ≤ BB ^ 2 := pow_mono (by omega)
        simpa using this
      · have h3 := ln_le h0
        have h4 : ln (am x) ≠ 0 := fun e => h0 (ln_eq_zero.1 e)
        have e : BB ^ (ln (am x) + 1) = BB ^ (ln (am x) - 1) * BB ^ 2 := by rw [← Nat.pow_add]; congr 1; omega
        rw [e]
        exact Nat.mul_le_mul_right _ (by omega)
    show BB ^ ((ln (am x) + 1) + lsm l) ≤ max 1 (am x) * lpr l * BB ^ (2 * (l.length + 1))
    rw [Nat.pow_add BB (ln (am x) + 1) (lsm l), show 2 * (l.length + 1) = 2 + 2 * l.length by omega, Nat.pow_add BB 2 (2 * l.length)]
    calc BB ^ (ln (am x) + 1) * BB ^ lsm l ≤ (max 1 (am x) * BB ^ 2) * (lpr l * BB ^ (2 * l.length)) := Nat.mul_le_mul h2 h1
      _ = max 1 (am x) * lpr l * (BB ^ 2 * BB ^ (2 * l.length)) := by grind
theorem lpr_cf : ∀ (d : Nat) (n : Int), d ≠ 0 → 0 ≤ n → lpr (cf n d) ≤ max (am n) d := by
  intro d
  induction d using Nat.strongRecOn with
  | _ d ih =>
    intro n hd hn
    have hdm := Int.mul_ediv_add_emod n (d : Int)
    have hx0 : 0 ≤ n / (d : Int) := Int.ediv_nonneg hn (by omega)
    have hr0 := Int.emod_nonneg n (show (d : Int) ≠ 0 by omega)
    generalize hx : n / (d : Int) = x at hdm hx0
    have hxd : x.toNat * d ≤ am n := by
      have e1 : ((x.toNat * d : Nat) : Int) = (d : Int) * x := by rw [Int.natCast_mul, Int.toNat_of_nonneg hx0, Int.mul_comm]
      unfold am
      omega
    have hax : am x = x.toNat := by unfold am; omega
    by_cases h0 : n % (d : Int) = 0
    · rw [cf_end hd h0, hx]
      show max 1 (am x) * 1 ≤ _
      rw [hax]
      have : x.toNat * 1 ≤ x.toNat * d := Nat.mul_le_mul_left _ (by omega)
      omega
    · rw [cf_on hd h0, hx]
      obtain ⟨m1, m2⟩ := mod_nat (n := n) hd
      have h1 := ih _ m2 (d : Int) (by omega) (by omega)
      have e : am (d : Int) = d := by simp [am]
      show max 1 (am x) * lpr (cf (d : Int) (n % (d : Int)).toNat) ≤ _
      refine Nat.le_trans (Nat.mul_le_mul_left _ (show lpr (cf (d : Int) (n % (d : Int)).toNat) ≤ d by omega)) ?_
      rw [hax]
      rcases Nat.eq_zero_or_pos x.toNat with h | h
      · rw [h]; simp; omega
      · rw [show max 1 x.toNat = x.toNat by omega]; omega
theorem lpr_any (d : Nat) (n : Int) (hd : d ≠ 0) : lpr (cf n d) ≤ (am n + 1) * d := by
  have hq : am (n / (d : Int)) ≤ am n + 1 := by
    have f1 : Fl n d (n / (d : Int)) (n % (d : Int)) := ⟨by rw [Int.mul_comm]; exact Int.mul_ediv_add_emod _ _, Int.emod_nonneg _ (by omega), Int.emod_lt_of_pos _ (by omega)⟩
    exact Fl.am f1 (by omega)
  by_cases h0 : n % (d : Int) = 0
  · rw [cf_end hd h0]
    show max 1 (am (n / (d : Int))) * 1 ≤ _
    refine Nat.mul_le_mul (by omega) (by omega)
  · rw [cf_on hd h0]
    obtain ⟨m1, m2⟩ := mod_nat (n := n) hd
    have h1 := lpr_cf (n % (d : Int)).toNat (d : Int) (by omega) (by omega)
    have e : am (d : Int) = d := by simp [am]
    show max 1 (am (n / (d : Int))) * lpr _ ≤ _
    exact Nat.mul_le_mul (by omega) (by omega)
theorem lsm_cf {d k m : Nat} {n : Int} (hd : d ≠ 0) (hn : am n < BB ^ k) (hm : d < BB ^ m) : lsm (cf n d) ≤ 2 * (cf n d).length + k + m := by
  have h1 := lsm_le (cf n d)
  have h2 := lpr_any d n hd
  have h3 : (am n + 1) * d ≤ BB ^ k * BB ^ m := Nat.mul_le_mul (by omega) (by omega)
  have h4 : BB ^ lsm (cf n d) ≤ BB ^ (k + m + 2 * (cf n d).length) := by
    rw [Nat.pow_add, Nat.pow_add]
    exact Nat.le_trans h1 (Nat.mul_le_mul_right _ (Nat.le_trans h2 h3))
  have h5 : lsm (cf n d) ≤ k + m + 2 * (cf n d).length := (Nat.pow_le_pow_iff_right (show 1 < BB by rw [BB_eq]; omega)).1 h4
  omega
end Go.Proofs.YtpifbbopcngdhaaGreatDoor

namespace Go.Proofs.YtpifbbopcngdhaaGreatDoor
open Go.RowKit
set_option linter.unusedVariables false
set_option linter.unusedSimpArgs false

theorem cf_le : ∀ (d : Nat) (n : Int), d ≠ 0 → ∀ x ∈ cf n d, am x ≤ max (am n) d + 1 := by
  intro d
  induction d using Nat.strongRecOn with
  | _ d ih =>
    intro n hd x hx
    have hq : am (n / (d : Int)) ≤ am n + 1 := by
      have f1 : Fl n d (n / (d : Int)) (n % (d : Int)) := ⟨by rw [Int.mul_comm]; exact Int.mul_ediv_add_emod _ _, Int.emod_nonneg _ (by omega), Int.emod_lt_of_pos _ (by omega)⟩
      exact Fl.am f1 (by omega)
    by_cases h0 : n % (d : Int) = 0
    · rw [cf_end hd h0] at hx
      obtain rfl := List.mem_singleton.1 hx
      omega
    · rw [cf_on hd h0] at hx
      rcases List.mem_cons.1 hx with h | h
      · subst h; omega
      · obtain ⟨m1, m2⟩ := mod_nat (n := n) hd
        have := ih _ m2 (d : Int) (by omega) x h
        have e : am (d : Int) = d := by simp [am]
        omega
theorem cf_len_le {s : Bool} {X Y m : Nat} (hY : Y < BB ^ m) : (cf (rn s X Y) (rd Y)).length ≤ 64 * (m + 1) + 1 := by
  have h1 : rd Y < 2 ^ (32 * (m + 1)) := by
    have h3 := rd_lt hY
    rw [BB_eq, show (4294967296 : Nat) = 2 ^ 32 by rfl, ← Nat.pow_mul] at h3
    exact h3
  have := cf_length _ (rn s X Y) _ h1
  omega
theorem cf_elem_ln {s : Bool} {X Y n m E : Nat} (hX : X < BB ^ n) (hY : Y < BB ^ m) (hn : n ≤ E) (hm : m + 1 ≤ E) : ∀ i, ln (am ((cf (rn s X Y) (rd Y)).getD i 0)) ≤ E + 1 := fun i => by
  have hDn : rd Y ≠ 0 := by have := rd_pos Y; omega
  by_cases hi : i < (cf (rn s X Y) (rd Y)).length
  · have h1 := cf_le _ (rn s X Y) hDn _ (List.getElem_mem hi)
    rw [show (cf (rn s X Y) (rd Y)).getD i 0 = (cf (rn s X Y) (rd Y))[i] by simp [List.getD, hi]]
    refine Nat.le_trans (ln_mono h1) ?_
    have h2 := rn_am s X Y
    have h3 := Nat.lt_of_lt_of_le (rd_lt hY) (pow_mono hm)
    have h4 := Nat.lt_of_lt_of_le hX (pow_mono hn)
    refine ln_le_of_lt ?_
    have h5 : BB ^ E * 1 < BB ^ E * BB := Nat.mul_lt_mul_of_pos_left (by rw [BB_eq]; omega) (BBp _)
    rw [Nat.pow_succ]
    omega
  · rw [show (cf (rn s X Y) (rd Y)).getD i 0 = 0 by simp [List.getD, Nat.le_of_not_lt hi]]
    show ln 0 ≤ _
    rw [ln_zero]
    omega
theorem cf_ne (n : Int) {d : Nat} (hd : d ≠ 0) : cf n d ≠ [] := by
  by_cases h0 : n % (d : Int) = 0
  · rw [cf_end hd h0]; simp
  · rw [cf_on hd h0]; simp
theorem IL.open {base : Nat} {W : World} {v : Value} {l : List Int} (h : IL base W v l) (hl : l ≠ []) : ∃ (g cap : Nat) (a : Nat → Option Addr), v = .slice (some ⟨g, 0, none⟩) l.length cap ∧ g < W.heap.size ∧
    ∀ i, i < l.length → W.cell? ⟨g, i * 2, none⟩ = some (.bool (ng (l.getD i 0))) ∧ W.cell? ⟨g, i * 2 + 1, none⟩ = some (.slice (a i) (ln (am (l.getD i 0))) (ln (am (l.getD i 0)))) ∧ Seg W (a i) (am (l.getD i 0)) (ln (am (l.getD i 0))) := by
  obtain ⟨s, rfl, hr, hs⟩ := h.ex
  have hn : 0 < s.length := by
    cases s with
    | nil => simp at hl
    | cons x s => simp
  obtain ⟨g, cap, rfl, _, hg⟩ := hr.form hn
  refine ⟨g, cap, fun i => (s.getD i (0, none)).2, by rw [List.length_map], hg, fun i hi => ?_⟩
  rw [List.length_map] at hi
  obtain ⟨c0, c1⟩ := cellsI_at s i hi
  have k0 := hr.cellAt (i * 2) (by omega)
  have k1 := hr.cellAt (i * 2 + 1) (by omega)
  rw [c0] at k0
  rw [c1] at k1
  have e1 : (s.map Prod.fst).getD i 0 = s[i].1 := by simp [List.getD, hi]
  have e2 : (s.getD i (0, none)).2 = s[i].2 := by simp [List.getD, hi]
  show _ ∧ W.cell? _ = some (.slice (s.getD i (0, none)).2 _ _) ∧ Seg W (s.getD i (0, none)).2 _ _
  rw [e1, e2]
  exact ⟨k0, k1, hs _ (List.getElem_mem hi)⟩
end Go.Proofs.YtpifbbopcngdhaaGreatDoor

namespace Go.Proofs.YtpifbbopcngdhaaGreatDoor
open Go.RowKit
set_option linter.unusedVariables false
set_option linter.unusedSimpArgs false

theorem IL.ints {base : Nat} {W : World} {v : Value} {l : List Int} (h : IL base W v l) (hl : l ≠ []) : ∃ (g cap : Nat) (q : Nat → IV), v = .slice (some ⟨g, 0, none⟩) l.length cap ∧ l.length ≤ cap ∧ IntsAt W (some ⟨g, 0, none⟩) l.length q ∧
    ∀ i, i < l.length → Seg W (q i).a (q i).X (q i).n ∧ (q i).n ≤ (q i).c ∧ (q i).n = ln (am (l.getD i 0)) ∧ (q i).val = l.getD i 0 := by
  obtain ⟨g, cap, a, hv, hg, hc⟩ := h.open hl
  have hcap : l.length ≤ cap := by
    obtain ⟨s, e, hr, _⟩ := h.ex
    rcases hr.2 with ⟨h0, hn⟩ | ⟨g', cap', cur, hv', _, _, hle, _⟩
    · rw [h0] at hv
      simp at hv
    · rw [hv'] at hv
      simp only [Value.slice.injEq] at hv
      obtain ⟨_, h1, h2⟩ := hv
      omega
  refine ⟨g, cap, fun i => ⟨ng (l.getD i 0), a i, ln (am (l.getD i 0)), ln (am (l.getD i 0)), am (l.getD i 0)⟩, hv, hcap, fun _ => ⟨g, 0, rfl, hg, fun i hi => ?_⟩, fun i hi => ⟨(hc i hi).2.2, Nat.le_refl _, rfl, sg_na _⟩⟩
  rw [Nat.zero_add]
  exact ⟨(hc i hi).1, (hc i hi).2.1⟩
theorem upq_is {q : Nat → IV} {l : List Int} (h : ∀ i, i < l.length → (q i).val = l.getD i 0) : (upq q l.length).map IV.val = l := by
  apply List.ext_getElem
  · simp [upq]
  · intro i h1 h2
    simp only [upq, List.getElem_map, List.getElem_range]
    rw [h i h2]
    simp [List.getD, h2]
theorem wsum_lsm {q : Nat → IV} : ∀ (l : List Int), (∀ i, i < l.length → (q i).n = ln (am (l.getD i 0))) → wsum (upq q l.length) = lsm l := by
  intro l
  have key : ∀ (l : List Int) (q : Nat → IV), (∀ i, i < l.length → (q i).n = ln (am (l.getD i 0))) → wsum ((List.range l.length).map q) = lsm l := by
    intro l
    induction l with
    | nil => intro q _; rfl
    | cons x l ih =>
      intro q h
      have h0 := h 0 (by simp)
      have h1 := ih (fun i => q (i + 1)) (fun i hi => by have := h (i + 1) (by simpa using hi); simpa using this)
      rw [List.length_cons, List.range_succ_eq_map, List.map_cons, List.map_map]
      show (q 0).n + 1 + _ = (ln (am x) + 1) + lsm l
      have h0' : (q 0).n = ln (am x) := by simpa using h0
      rw [h0']
      congr 1
  exact key l q
/-- Fold of Expand: the number in lowest terms -/
theorem foldExpand_is {base : Nat} (W : World) (v : Value) (s : Bool) (X Y n m : Nat) (Z : Int) (V : Nat) (hX : X < BB ^ n) (hY : Y < BB ^ m) (hn : n ≤ 67108863) (hm : m ≤ 67108863) (hL : Low (rn s X Y) ((rd Y : Nat) : Int) Z V)
    (h : IL base W v (cf (rn s X Y) (rd Y))) :
    ∃ g len cap, v = .slice (some ⟨g, 0, none⟩) len cap ∧ Calls Tryz.prog 9 #[.slice (some ⟨g, 0, none⟩) len cap] W fun e w' => ∃ pa pb, e = .returned (.tuple #[.agg #[.bool (ng Z), .slice pa (ln (am Z)) (ln (am Z)), .slice pb (ln V) (ln V)], .int .i64 0]) ∧ Below W.heap.size W w' ∧ Seg w' pa (am Z) (ln (am Z)) ∧ Seg w' pb V (ln V) := by
  have hDn : rd Y ≠ 0 := by have := rd_pos Y; omega
  have hlen : (cf (rn s X Y) (rd Y)).length ≤ 4294967297 := Nat.le_trans (cf_len_le hY) (by omega)
  have hmax := cf_elem_ln (s := s) (E := 67108864) hX hY (by omega) (by omega)
  have hsm := lsm_cf (k := n) (m := m + 1) (n := rn s X Y) hDn (Nat.lt_of_le_of_lt (rn_am s X Y) hX) (rd_lt hY)
  have htp := cf_tail_pos (rd Y) (rn s X Y) hDn
  obtain ⟨hc1, hc2⟩ := cpq_cf (rd Y) (rn s X Y) hDn
  have hc3 := cpq_cop (cf (rn s X Y) (rd Y))
  have hne := cf_ne (rn s X Y) hDn
  generalize cf (rn s X Y) (rd Y) = l at h hlen hmax hsm htp hc1 hc2 hc3 hne
  obtain ⟨g, cap, q, hv, hcap, hI, hq⟩ := h.ints hne
  refine ⟨g, l.length, cap, hv, ?_⟩
  have hval : (upq q l.length).map IV.val = l := upq_is fun i hi => (hq i hi).2.2.2
  have hws : wsum (upq q l.length) ≤ 1099511627776 := by rw [wsum_lsm l fun i hi => (hq i hi).2.2.1]; omega
  have hgd : gd q l.length := ⟨by cases l with | nil => exact absurd rfl hne | cons x l => simp, fun i h1 h2 => by rw [(hq i h2).2.2.2]; exact htp i h1 h2⟩
  refine (qFold_is (some ⟨g, 0, none⟩) l.length cap q W hI (fun i hi => ⟨(hq i hi).1, (hq i hi).2.1, by rw [(hq i hi).2.2.1]; have := hmax i; omega⟩) hcap (by omega) hws).mono ?_
  rintro e w' (⟨_, P, Q, pa, pb, hPQ, he, hb, ka, kb⟩ | ⟨hn, _⟩)
  · rw [hval] at hPQ
    rw [hPQ] at hc1 hc2 hc3
    have hQ : 0 < Q := hc2
    have hlow : Low (rn s X Y) ((rd Y : Nat) : Int) P (am Q) := ⟨by omega, by unfold am; omega, by
      have e1 : ((am Q : Nat) : Int) = Q := by unfold am; omega
      rw [e1]; exact hc1, hc3⟩
    obtain ⟨e1, e2⟩ := hlow.uniq hL rfl
    subst e1
    subst e2
    exact ⟨pa, pb, he, hb, ka, kb⟩
  · exact absurd hgd hn
end Go.Proofs.YtpifbbopcngdhaaGreatDoor
