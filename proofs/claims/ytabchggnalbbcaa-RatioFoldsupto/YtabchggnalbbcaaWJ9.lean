/-
  Fold: the number of a continued fraction, of the program.
-/
import Derived.Test.YtabchggnalbbcaaWJ8
namespace Go.Proofs.Ytabchggnalbbcaa
open Go.RowKit
set_option linter.unusedVariables false
set_option linter.unusedSimpArgs false

/-- a list that is a continued fraction -/
def gd (q : Nat → IV) (len : Nat) : Prop := 0 < len ∧ ∀ i, 1 ≤ i → i < len → 0 < (q i).val
theorem sgn_lt {Z : Int} : sgn Z < 1 ↔ Z ≤ 0 := by
  unfold sgn
  by_cases h : Z < 0
  · simp [h]; omega
  · by_cases h2 : Z = 0
    · simp [h2]
    · simp [h, h2]; omega

set_option maxRecDepth 100000 in
set_option maxHeartbeats 1000000 in
theorem valuesOf_is (a : Option Addr) (len cap : Nat) (w : World) :
    Calls Try.prog 13 #[.slice a len cap] w fun e w' => e = .returned (.func (.func 28) #[] #[.pointer (some ⟨w.heap.size, 0, none⟩)]) ∧ w' = w.alloc (.cells #[.slice a len cap] 22) := by
  go_enter Try.func13, Try.ntmps13
  go_wp2
  go_ret
  exact ⟨rfl, rfl⟩

set_option maxRecDepth 100000 in
set_option maxHeartbeats 8000000 in
theorem qFold_is (a : Option Addr) (len cap : Nat) (q : Nat → IV) (w : World) (hI : IntsAt w a len q) (hq : ∀ i, i < len → (q i).ok w) (hcap : len ≤ cap) (hl : len ≤ 1048576) (hw : wsum (upq q len) ≤ 4194304) :
    Calls Try.prog 5 #[.slice a len cap] w fun e w' => (gd q len ∧ ∃ P Q pa pb, cpq ((upq q len).map IV.val) = (P, Q) ∧ e = .returned (.tuple #[.agg #[.bool (ng P), .slice pa (ln (am P)) (ln (am P)), .slice pb (ln (am Q)) (ln (am Q))], .int .i64 0]) ∧ Below w.heap.size w w' ∧ Seg w' pa (am P) (ln (am P)) ∧ Seg w' pb (am Q) (ln (am Q))) ∨ (¬ gd q len ∧ e = .returned (.tuple #[.agg #[.bool false, .slice none 0 0, .slice none 0 0], .int .i64 1]) ∧ Below w.heap.size w w') := by
  have bA := below_alloc (w := w) (.cells #[.bool false, .slice none 0 0, .slice none 0 0] 29)
  have qR := Blk.new w #[.bool false, .slice none 0 0, .slice none 0 0] 29
  by_cases h0 : len = 0
  · subst h0
    have hng : ¬ gd q 0 := fun h => absurd h.1 (by omega)
    go_enter Try.func5, Try.ntmps5
    go_wp2
    refine bodyPost_ret (v := .tuple #[.agg #[.bool false, .slice none 0 0, .slice none 0 0], .int .i64 1]) (by rw [results_ct rfl]; go_simp) rfl ?_
    exact Or.inr ⟨hng, rfl, bA⟩
  · obtain ⟨b, off, rfl, hbl, hcl⟩ := hI (by omega)
    have HC := hide' hcl
    have HI := hide' hI
    have HQ := hide' hq
    have HW := hide' hw
    clear hcl hI hq hw
    have hlb : (((len : Nat) : Int) == 0) = false := by rw [beq_eq_false_iff_ne]; omega
    obtain ⟨WA, hWA⟩ : ∃ WA, w.alloc (.cells #[.bool false, .slice none 0 0, .slice none 0 0] 29) = WA := ⟨_, rfl⟩
    by_cases hcp : cap = 1
    · subst hcp
      go_enter Try.func5, Try.ntmps5
      go_wp2_with fail
      rw [hWA] at bA qR
      clear hWA hlb
      go_loopw [13] (fun vi wr => ∃ k : Nat, k ≤ len - 1 ∧ vi = .int .i64 k ∧ (∀ i, 1 ≤ i → i ≤ k → 0 < (q i).val) ∧ Below WA.heap.size WA wr) (fun vi _ => len - (intOf vi).toNat)
      case atStart => exact ⟨0, Nat.zero_le _, rfl, fun i h1 h2 => absurd h1 (by omega), Below.refl _ _⟩
      case round =>
        obtain ⟨k, hk, rfl, hpos, hB⟩ := hrel
        have HP := hide' hpos
        clear hpos
        have bW := bA.trans (hB.mono bA.size)
        have qR1 := qR.later hB
        by_cases hlt : k < len - 1
        · exact absurd hlt (by omega)
        · have hgd : gd q len := ⟨by omega, fun i h1 h2 => HP.out i h1 (by omega)⟩
          have bV := below_alloc (w := wr) (.cells #[.slice (some ⟨b, off, none⟩) len 1] 22)
          have bY := bW.trans (bV.mono bW.size)
          have GV := hide' (valuesOf_is (some ⟨b, off, none⟩) len 1 wr)
          have GW := hide' (value_is (wr.alloc (.cells #[.slice (some ⟨b, off, none⟩) len 1] 22)) wr.heap.size (some ⟨b, off, none⟩) len 1 q (by go_simp) (HI.out.below bY) (fun i hi => ⟨(HQ.out i hi).1.later bY, (HQ.out i hi).2⟩) hcap (by omega) HW.out)
          have qR2 := qR1.later bV
          go_wp2_with (first | (go_at_call 13; refine GV.out.mono ?_; rintro e w4 ⟨rfl, rfl⟩) | (go_at_call 12; refine GW.out.mono ?_; rintro e w5 ⟨P, Q, pa, pb, hPQ, rfl, b5, ka, kb⟩; have qR3 := qR2.later b5; have v0 := qR3.cell 0; have v1 := qR3.cell 1; have v2 := qR3.cell 2; have fz := fun o => qR3.frozen o; simp only [List.getElem?_toArray, List.getElem?_cons_zero, List.getElem?_cons_succ] at v0 v1 v2))
          obtain ⟨c9, q9⟩ := qR3.set3 (.bool (ng P)) (.slice pa (ln (am P)) (ln (am P))) (.slice pb (ln (am Q)) (ln (am Q)))
          have hno := qR3.no (by simp)
          have z0 := q9.cell 0
          have z1 := q9.cell 1
          have z2 := q9.cell 2
          simp only [List.getElem?_toArray, List.getElem?_cons_zero, List.getElem?_cons_succ] at z0 z1 z2
          have b9 := (bY.trans (b5.mono bY.size)).trans (c9.below (Nat.le_refl _))
          clear v0 v1 v2
          refine bodyPost_ret (v := .tuple #[.agg #[.bool (ng P), .slice pa (ln (am P)) (ln (am P)), .slice pb (ln (am Q)) (ln (am Q))], .int .i64 0]) (by rw [results_ct rfl]; go_simp) rfl ?_
          exact Or.inl ⟨hgd, P, Q, pa, pb, hPQ, rfl, b9, ka.ch c9 hno, kb.ch c9 hno⟩
    · skip
      go_enter Try.func5, Try.ntmps5
      go_wp2_with fail
      rw [hWA] at bA qR
      clear hWA hlb
      go_loopw [13] (fun vi wr => ∃ k : Nat, k ≤ len - 1 ∧ vi = .int .i64 k ∧ (∀ i, 1 ≤ i → i ≤ k → 0 < (q i).val) ∧ Below WA.heap.size WA wr) (fun vi _ => len - (intOf vi).toNat)
      case atStart => exact ⟨0, Nat.zero_le _, rfl, fun i h1 h2 => absurd h1 (by omega), Below.refl _ _⟩
      case round =>
        obtain ⟨k, hk, rfl, hpos, hB⟩ := hrel
        have HP := hide' hpos
        clear hpos
        have bW := bA.trans (hB.mono bA.size)
        have qR1 := qR.later hB
        by_cases hlt : k < len - 1
        · obtain ⟨y0, y1⟩ := HC.out (k + 1) (by omega)
          rw [show off + (k + 1) * 2 = off + 2 + k * 2 by omega] at y0 y1
          replace y0 := below_cell bW y0
          replace y1 := below_cell bW y1
          have okk := HQ.out (k + 1) (by omega)
          have bX := below_alloc (w := wr) (.cells #[.bool (q (k + 1)).s, .slice (q (k + 1)).a (q (k + 1)).n (q (k + 1)).c] 26)
          have qR2 := qR1.later bX
          have GS := hide' (wSign_is (q (k + 1)).s (q (k + 1)).a (q (k + 1)).n (q (k + 1)).c (q (k + 1)).X (q (k + 1)).val _ okk.2.1 (by have := okk.2.2; omega) ((okk.1.later bW).later bX) rfl)
          by_cases hv : (q (k + 1)).val ≤ 0
          · have hs := hide' (show (decide (sgn (q (k + 1)).val < 1)) = true by rw [decide_eq_true_iff]; exact sgn_lt.2 hv)
            have HV := hide' hv
            clear hv
            go_wp2_with (go_at_call 11; refine GS.out.mono ?_; rintro e w3 ⟨rfl, b3⟩; have qR3 := qR2.later b3; have v0 := qR3.cell 0; have v1 := qR3.cell 1; have v2 := qR3.cell 2; have fz := fun o => qR3.frozen o; simp only [List.getElem?_toArray, List.getElem?_cons_zero, List.getElem?_cons_succ] at v0 v1 v2; have hsb := hs.out)
            obtain ⟨c9, q9⟩ := qR3.set3 (.bool false) (.slice none 0 0) (.slice none 0 0)
            have hno := qR3.no (by simp)
            have z0 := q9.cell 0
            have z1 := q9.cell 1
            have z2 := q9.cell 2
            simp only [List.getElem?_toArray, List.getElem?_cons_zero, List.getElem?_cons_succ] at z0 z1 z2
            have b9 := (bW.trans ((bX.trans (b3.mono bX.size)).mono bW.size)).trans (c9.below (Nat.le_refl _))
            clear v0 v1 v2
            refine bodyPost_ret (v := .tuple #[.agg #[.bool false, .slice none 0 0, .slice none 0 0], .int .i64 1]) (by rw [results_ct rfl]; go_simp) rfl ?_
            exact Or.inr ⟨fun h => absurd (h.2 (k + 1) (by omega) (by omega)) (by have := HV.out; omega), rfl, b9⟩
          · have hs := hide' (show (decide (sgn (q (k + 1)).val < 1)) = false by rw [decide_eq_false_iff_not]; exact fun h => hv (sgn_lt.1 h))
            have HV := hide' hv
            clear hv
            go_wp2_with (go_at_call 11; refine GS.out.mono ?_; rintro e w3 ⟨rfl, b3⟩; have qR3 := qR2.later b3; have v0 := qR3.cell 0; have v1 := qR3.cell 1; have v2 := qR3.cell 2; have fz := fun o => qR3.frozen o; simp only [List.getElem?_toArray, List.getElem?_cons_zero, List.getElem?_cons_succ] at v0 v1 v2; have hsb := hs.out)
            go_roundw
            case rel => exact ⟨k + 1, by omega, by simp, fun i h1 h2 => (by rcases Nat.lt_or_ge k i with h3 | h3; (obtain rfl : i = k + 1 := (by omega); have := HV.out; omega); exact HP.out i h1 (by omega)), hB.trans ((bX.trans (b3.mono bX.size)).mono hB.size)⟩
            case measure => simp [intOf]; omega
        · have hgd : gd q len := ⟨by omega, fun i h1 h2 => HP.out i h1 (by omega)⟩
          have bV := below_alloc (w := wr) (.cells #[.slice (some ⟨b, off, none⟩) len cap] 22)
          have bY := bW.trans (bV.mono bW.size)
          have GV := hide' (valuesOf_is (some ⟨b, off, none⟩) len cap wr)
          have GW := hide' (value_is (wr.alloc (.cells #[.slice (some ⟨b, off, none⟩) len cap] 22)) wr.heap.size (some ⟨b, off, none⟩) len cap q (by go_simp) (HI.out.below bY) (fun i hi => ⟨(HQ.out i hi).1.later bY, (HQ.out i hi).2⟩) hcap (by omega) HW.out)
          have qR2 := qR1.later bV
          go_wp2_with (first | (go_at_call 13; refine GV.out.mono ?_; rintro e w4 ⟨rfl, rfl⟩) | (go_at_call 12; refine GW.out.mono ?_; rintro e w5 ⟨P, Q, pa, pb, hPQ, rfl, b5, ka, kb⟩; have qR3 := qR2.later b5; have v0 := qR3.cell 0; have v1 := qR3.cell 1; have v2 := qR3.cell 2; have fz := fun o => qR3.frozen o; simp only [List.getElem?_toArray, List.getElem?_cons_zero, List.getElem?_cons_succ] at v0 v1 v2))
          obtain ⟨c9, q9⟩ := qR3.set3 (.bool (ng P)) (.slice pa (ln (am P)) (ln (am P))) (.slice pb (ln (am Q)) (ln (am Q)))
          have hno := qR3.no (by simp)
          have z0 := q9.cell 0
          have z1 := q9.cell 1
          have z2 := q9.cell 2
          simp only [List.getElem?_toArray, List.getElem?_cons_zero, List.getElem?_cons_succ] at z0 z1 z2
          have b9 := (bY.trans (b5.mono bY.size)).trans (c9.below (Nat.le_refl _))
          clear v0 v1 v2
          refine bodyPost_ret (v := .tuple #[.agg #[.bool (ng P), .slice pa (ln (am P)) (ln (am P)), .slice pb (ln (am Q)) (ln (am Q))], .int .i64 0]) (by rw [results_ct rfl]; go_simp) rfl ?_
          exact Or.inl ⟨hgd, P, Q, pa, pb, hPQ, rfl, b9, ka.ch c9 hno, kb.ch c9 hno⟩
end Go.Proofs.Ytabchggnalbbcaa
