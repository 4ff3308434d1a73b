/-
  The reference's Parse of a text, by the ways of Rf.
-/
import Derived.Test.YticpdbnlbckbiaaGreatDoorWX2
import Derived.Test.YticpdbnlbckbiaaGreatDoorWQ2
import Derived.Test.YticpdbnlbckbiaaGreatDoorWPT
import Derived.Test.YticpdbnlbckbiaaGreatDoorWT7
namespace Go.Proofs.YticpdbnlbckbiaaGreatDoor
open Go.RowKit
set_option linter.unusedVariables false

/-- the script's text of a number from 0 on: its digits, and those of its Den, if that is not 1 -/
def scr (x d : ByteArray) (V : Nat) : ByteArray := if V = 1 then x ++ ⟨#[46, 48]⟩ else ⟨#[40, 47, 32]⟩ ++ x ++ ⟨#[46, 48, 32]⟩ ++ d ++ ⟨#[46, 48, 41]⟩
theorem scr_size (x d : ByteArray) (V : Nat) : (scr x d V).size ≤ x.size + d.size + 9 := by
  have e1 : (⟨#[46, 48]⟩ : ByteArray).size = 2 := rfl
  have e2 : (⟨#[40, 47, 32]⟩ : ByteArray).size = 3 := rfl
  have e3 : (⟨#[46, 48, 32]⟩ : ByteArray).size = 3 := rfl
  have e4 : (⟨#[46, 48, 41]⟩ : ByteArray).size = 3 := rfl
  unfold scr
  split
  · rw [ByteArray.size_append, e1]; omega
  · simp only [ByteArray.size_append, e2, e3, e4]; omega
theorem ng_neg {Z : Int} (h : ng Z = true) : ng (-Z) = false := by
  unfold ng at *
  rw [decide_eq_true_eq] at h
  rw [decide_eq_false_iff_not]; omega
end Go.Proofs.YticpdbnlbckbiaaGreatDoor

namespace Go.Proofs.YticpdbnlbckbiaaGreatDoor
open Go.RowKit
set_option linter.unusedVariables false
set_option linter.unusedSimpArgs false

theorem Lead.uniq {t : ByteArray} {n m : Nat} (h : Lead t n) (k : Lead t m) : n = m := by
  have h1 : ¬ n < m := fun c => h.no (by have := k.le; omega) (k.dig n c)
  have h2 : ¬ m < n := fun c => k.no (by have := h.le; omega) (h.dig m c)
  omega
set_option maxHeartbeats 2000000 in
set_option maxRecDepth 100000 in
theorem vqParse_bad_pl (s t : ByteArray) (n : Nat) (hs : s.size ≤ 140737488351232) (h0 : 0 < s.size) (hm : byt s 0 ≠ 45) (hst : s = t) (hl : Lead t n) (ha : ¬ isT 10 (t.extract 0 n)) (w : World) : Calls Tryz.prog 5 #[.string s] w fun e w' => e = .returned (.tuple #[.agg #[.bool false, .slice none 0 0, .slice none 0 0], .int .i64 31]) ∧ Below w.heap.size w w' := by
  have h0i : (0 : Int) < (s.size : Int) := by omega
  have eb := byt_of h0
  have hx : (((s[0]'h0).toNat : Int) == 45) = false := by
    rw [← eb, beq_eq_false_iff_ne]; omega
  have ht : t.size ≤ s.size := by subst hst; first | exact Nat.le_refl _ | (simp only [ByteArray.size_extract]; omega)
  have ez : (t.extract 0 n).size ≤ t.size := by simp only [ByteArray.size_extract]; omega
  have RP1 := hide' (fun w' => rParse_any (t.extract 0 n) 10 (by omega) (by omega) (by omega) w')
  have ba := below_alloc (w := w) (.cells #[.bool false, .slice none 0 0, .slice none 0 0] 27)
  have qR := Blk.new w #[.bool false, .slice none 0 0, .slice none 0 0] 27
  have H := hide' ha
  clear ha
  subst hst
  go_enter Tryz.func5, Tryz.ntmps5
  go_wp2_with fail
  generalize w.alloc (.cells #[.bool false, .slice none 0 0, .slice none 0 0] 27) = W at ba qR ⊢
  go_loopw [5] (fun i wr => ∃ k : Nat, k ≤ s.size ∧ i = .int .i64 k ∧ wr = W ∧ ∀ j, j < k → dval (byt s j) < 10) (fun i _ => s.size - (intOf i).toNat)
  case atStart => exact ⟨0, Nat.zero_le _, rfl, rfl, fun j hj => by omega⟩
  case round =>
    obtain ⟨k, hk, rfl, rfl, hj⟩ := hrel
    by_cases hlt : k < s.size
    · have hki : ((k : Int) < (s.size : Int)) := by omega
      have ek := byt_of hlt
      by_cases hv : dval (byt s k) < 10
      · have hv' := dval10.1 hv
        rw [ek] at hv'
        have g1 : (48 : Int) ≤ ((s[k]'hlt).toNat : Int) := by omega
        have g2 : ((s[k]'hlt).toNat : Int) ≤ 57 := by omega
        go_wp2
        go_roundw
        case rel => exact ⟨k + 1, by omega, by go_num, by trivial, fun j hj' => by
          by_cases e : j = k
          · rw [e]; exact hv
          · exact hj j (by omega)⟩
        case measure => simp [intOf]; omega
      · have hv' : ¬ (48 ≤ byt s k ∧ byt s k ≤ 57) := fun c => hv (dval10.2 c)
        rw [ek] at hv'
        have hno : k < s.size → ¬ dval (byt s k) < 10 := fun _ => hv
        by_cases g1 : (48 : Int) ≤ ((s[k]'hlt).toNat : Int)
        · have g2 : ¬ ((s[k]'hlt).toNat : Int) ≤ 57 := by omega
          obtain rfl : k = n := Lead.uniq ⟨hk, hj, hno⟩ hl
          clear hj hno
          go_wp2_with fail
          refine (RP1.out _).mono ?_
          rintro e w1 ⟨_, hbad, b1⟩
          obtain rfl := hbad H.out
          have qR2 := qR.later b1
          have v0 := qR2.cell 0
          have v1 := qR2.cell 1
          have v2 := qR2.cell 2
          simp only [List.getElem?_toArray, List.getElem?_cons_zero, List.getElem?_cons_succ] at v0 v1 v2
          have fz := fun o => qR2.frozen o
          go_wp2
          obtain ⟨c9, q9⟩ := qR2.set3 (.bool false) (.slice none 0 0) (.slice none 0 0)
          have z0 := q9.cell 0
          have z1 := q9.cell 1
          have z2 := q9.cell 2
          simp only [List.getElem?_toArray, List.getElem?_cons_zero, List.getElem?_cons_succ] at z0 z1 z2
          clear v0 v1 v2
          refine bodyPost_ret (v := .tuple #[.agg #[.bool false, .slice none 0 0, .slice none 0 0], .int .i64 31]) (by rw [results_ct rfl]; go_simp) rfl ?_
          exact ⟨rfl, (ba.trans (b1.mono ba.size)).trans (c9.below (Nat.le_refl _))⟩
        · skip
          obtain rfl : k = n := Lead.uniq ⟨hk, hj, hno⟩ hl
          clear hj hno
          go_wp2_with fail
          refine (RP1.out _).mono ?_
          rintro e w1 ⟨_, hbad, b1⟩
          obtain rfl := hbad H.out
          have qR2 := qR.later b1
          have v0 := qR2.cell 0
          have v1 := qR2.cell 1
          have v2 := qR2.cell 2
          simp only [List.getElem?_toArray, List.getElem?_cons_zero, List.getElem?_cons_succ] at v0 v1 v2
          have fz := fun o => qR2.frozen o
          go_wp2
          obtain ⟨c9, q9⟩ := qR2.set3 (.bool false) (.slice none 0 0) (.slice none 0 0)
          have z0 := q9.cell 0
          have z1 := q9.cell 1
          have z2 := q9.cell 2
          simp only [List.getElem?_toArray, List.getElem?_cons_zero, List.getElem?_cons_succ] at z0 z1 z2
          clear v0 v1 v2
          refine bodyPost_ret (v := .tuple #[.agg #[.bool false, .slice none 0 0, .slice none 0 0], .int .i64 31]) (by rw [results_ct rfl]; go_simp) rfl ?_
          exact ⟨rfl, (ba.trans (b1.mono ba.size)).trans (c9.below (Nat.le_refl _))⟩
    · have hki : ¬ ((k : Int) < (s.size : Int)) := by omega
      have hno : k < s.size → ¬ dval (byt s k) < 10 := fun c => absurd c hlt
      obtain rfl : k = n := Lead.uniq ⟨hk, hj, hno⟩ hl
      clear hj hno
      go_wp2_with fail
      refine (RP1.out _).mono ?_
      rintro e w1 ⟨_, hbad, b1⟩
      obtain rfl := hbad H.out
      have qR2 := qR.later b1
      have v0 := qR2.cell 0
      have v1 := qR2.cell 1
      have v2 := qR2.cell 2
      simp only [List.getElem?_toArray, List.getElem?_cons_zero, List.getElem?_cons_succ] at v0 v1 v2
      have fz := fun o => qR2.frozen o
      go_wp2
      obtain ⟨c9, q9⟩ := qR2.set3 (.bool false) (.slice none 0 0) (.slice none 0 0)
      have z0 := q9.cell 0
      have z1 := q9.cell 1
      have z2 := q9.cell 2
      simp only [List.getElem?_toArray, List.getElem?_cons_zero, List.getElem?_cons_succ] at z0 z1 z2
      clear v0 v1 v2
      refine bodyPost_ret (v := .tuple #[.agg #[.bool false, .slice none 0 0, .slice none 0 0], .int .i64 31]) (by rw [results_ct rfl]; go_simp) rfl ?_
      exact ⟨rfl, (ba.trans (b1.mono ba.size)).trans (c9.below (Nat.le_refl _))⟩

set_option maxHeartbeats 2000000 in
set_option maxRecDepth 100000 in
theorem vqParse_bad_em (s t : ByteArray) (n : Nat) (hs : s.size ≤ 140737488351232) (h0 : s.size = 0) (hst : s = t) (hl : Lead t n) (ha : ¬ isT 10 (t.extract 0 n)) (w : World) : Calls Tryz.prog 5 #[.string s] w fun e w' => e = .returned (.tuple #[.agg #[.bool false, .slice none 0 0, .slice none 0 0], .int .i64 31]) ∧ Below w.heap.size w w' := by
  have h0i : ¬ (0 : Int) < (s.size : Int) := by omega
  have h0d : decide ((0 : Int) < (s.size : Int)) = false := by rw [decide_eq_false_iff_not]; omega
  have ht : t.size ≤ s.size := by subst hst; first | exact Nat.le_refl _ | (simp only [ByteArray.size_extract]; omega)
  have ez : (t.extract 0 n).size ≤ t.size := by simp only [ByteArray.size_extract]; omega
  have RP1 := hide' (fun w' => rParse_any (t.extract 0 n) 10 (by omega) (by omega) (by omega) w')
  have ba := below_alloc (w := w) (.cells #[.bool false, .slice none 0 0, .slice none 0 0] 27)
  have qR := Blk.new w #[.bool false, .slice none 0 0, .slice none 0 0] 27
  have H := hide' ha
  clear ha
  subst hst
  go_enter Tryz.func5, Tryz.ntmps5
  go_wp2_with fail
  generalize w.alloc (.cells #[.bool false, .slice none 0 0, .slice none 0 0] 27) = W at ba qR ⊢
  go_loopw [5] (fun i wr => ∃ k : Nat, k ≤ s.size ∧ i = .int .i64 k ∧ wr = W ∧ ∀ j, j < k → dval (byt s j) < 10) (fun i _ => s.size - (intOf i).toNat)
  case atStart => exact ⟨0, Nat.zero_le _, rfl, rfl, fun j hj => by omega⟩
  case round =>
    obtain ⟨k, hk, rfl, rfl, hj⟩ := hrel
    by_cases hlt : k < s.size
    · exact absurd hlt (by omega)
    · have hki : ¬ ((k : Int) < (s.size : Int)) := by omega
      have hno : k < s.size → ¬ dval (byt s k) < 10 := fun c => absurd c hlt
      obtain rfl : k = n := Lead.uniq ⟨hk, hj, hno⟩ hl
      clear hj hno
      go_wp2_with fail
      refine (RP1.out _).mono ?_
      rintro e w1 ⟨_, hbad, b1⟩
      obtain rfl := hbad H.out
      have qR2 := qR.later b1
      have v0 := qR2.cell 0
      have v1 := qR2.cell 1
      have v2 := qR2.cell 2
      simp only [List.getElem?_toArray, List.getElem?_cons_zero, List.getElem?_cons_succ] at v0 v1 v2
      have fz := fun o => qR2.frozen o
      go_wp2
      obtain ⟨c9, q9⟩ := qR2.set3 (.bool false) (.slice none 0 0) (.slice none 0 0)
      have z0 := q9.cell 0
      have z1 := q9.cell 1
      have z2 := q9.cell 2
      simp only [List.getElem?_toArray, List.getElem?_cons_zero, List.getElem?_cons_succ] at z0 z1 z2
      clear v0 v1 v2
      refine bodyPost_ret (v := .tuple #[.agg #[.bool false, .slice none 0 0, .slice none 0 0], .int .i64 31]) (by rw [results_ct rfl]; go_simp) rfl ?_
      exact ⟨rfl, (ba.trans (b1.mono ba.size)).trans (c9.below (Nat.le_refl _))⟩

set_option maxHeartbeats 2000000 in
set_option maxRecDepth 100000 in
theorem vqParse_bad_ng (s t : ByteArray) (n : Nat) (hs : s.size ≤ 140737488351232) (h0 : 0 < s.size) (hm : byt s 0 = 45) (hst : s.extract 1 s.size = t) (hl : Lead t n) (ha : ¬ isT 10 (t.extract 0 n)) (w : World) : Calls Tryz.prog 5 #[.string s] w fun e w' => e = .returned (.tuple #[.agg #[.bool false, .slice none 0 0, .slice none 0 0], .int .i64 31]) ∧ Below w.heap.size w w' := by
  have h0i : (0 : Int) < (s.size : Int) := by omega
  have eb := byt_of h0
  have hx : (((s[0]'h0).toNat : Int) == 45) = true := by
    rw [← eb, beq_iff_eq]; omega
  have h1i : (1 : Int) ≤ (s.size : Int) := by omega
  have h1n : 1 ≤ s.size := by omega
  have ht : t.size ≤ s.size := by subst hst; first | exact Nat.le_refl _ | (simp only [ByteArray.size_extract]; omega)
  have ez : (t.extract 0 n).size ≤ t.size := by simp only [ByteArray.size_extract]; omega
  have RP1 := hide' (fun w' => rParse_any (t.extract 0 n) 10 (by omega) (by omega) (by omega) w')
  have ba := below_alloc (w := w) (.cells #[.bool false, .slice none 0 0, .slice none 0 0] 27)
  have qR := Blk.new w #[.bool false, .slice none 0 0, .slice none 0 0] 27
  have H := hide' ha
  clear ha
  go_enter Tryz.func5, Tryz.ntmps5
  go_wp2_with fail
  try rw [hst]
  generalize w.alloc (.cells #[.bool false, .slice none 0 0, .slice none 0 0] 27) = W at ba qR ⊢
  go_loopw [5] (fun i wr => ∃ k : Nat, k ≤ t.size ∧ i = .int .i64 k ∧ wr = W ∧ ∀ j, j < k → dval (byt t j) < 10) (fun i _ => t.size - (intOf i).toNat)
  case atStart => exact ⟨0, Nat.zero_le _, rfl, rfl, fun j hj => by omega⟩
  case round =>
    obtain ⟨k, hk, rfl, rfl, hj⟩ := hrel
    by_cases hlt : k < t.size
    · have hki : ((k : Int) < (t.size : Int)) := by omega
      have ek := byt_of hlt
      by_cases hv : dval (byt t k) < 10
      · have hv' := dval10.1 hv
        rw [ek] at hv'
        have g1 : (48 : Int) ≤ ((t[k]'hlt).toNat : Int) := by omega
        have g2 : ((t[k]'hlt).toNat : Int) ≤ 57 := by omega
        go_wp2
        go_roundw
        case rel => exact ⟨k + 1, by omega, by go_num, by trivial, fun j hj' => by
          by_cases e : j = k
          · rw [e]; exact hv
          · exact hj j (by omega)⟩
        case measure => simp [intOf]; omega
      · have hv' : ¬ (48 ≤ byt t k ∧ byt t k ≤ 57) := fun c => hv (dval10.2 c)
        rw [ek] at hv'
        have hno : k < t.size → ¬ dval (byt t k) < 10 := fun _ => hv
        by_cases g1 : (48 : Int) ≤ ((t[k]'hlt).toNat : Int)
        · have g2 : ¬ ((t[k]'hlt).toNat : Int) ≤ 57 := by omega
          obtain rfl : k = n := Lead.uniq ⟨hk, hj, hno⟩ hl
          clear hj hno
          go_wp2_with fail
          refine (RP1.out _).mono ?_
          rintro e w1 ⟨_, hbad, b1⟩
          obtain rfl := hbad H.out
          have qR2 := qR.later b1
          have v0 := qR2.cell 0
          have v1 := qR2.cell 1
          have v2 := qR2.cell 2
          simp only [List.getElem?_toArray, List.getElem?_cons_zero, List.getElem?_cons_succ] at v0 v1 v2
          have fz := fun o => qR2.frozen o
          go_wp2
          obtain ⟨c9, q9⟩ := qR2.set3 (.bool false) (.slice none 0 0) (.slice none 0 0)
          have z0 := q9.cell 0
          have z1 := q9.cell 1
          have z2 := q9.cell 2
          simp only [List.getElem?_toArray, List.getElem?_cons_zero, List.getElem?_cons_succ] at z0 z1 z2
          clear v0 v1 v2
          refine bodyPost_ret (v := .tuple #[.agg #[.bool false, .slice none 0 0, .slice none 0 0], .int .i64 31]) (by rw [results_ct rfl]; go_simp) rfl ?_
          exact ⟨rfl, (ba.trans (b1.mono ba.size)).trans (c9.below (Nat.le_refl _))⟩
        · skip
          obtain rfl : k = n := Lead.uniq ⟨hk, hj, hno⟩ hl
          clear hj hno
          go_wp2_with fail
          refine (RP1.out _).mono ?_
          rintro e w1 ⟨_, hbad, b1⟩
          obtain rfl := hbad H.out
          have qR2 := qR.later b1
          have v0 := qR2.cell 0
          have v1 := qR2.cell 1
          have v2 := qR2.cell 2
          simp only [List.getElem?_toArray, List.getElem?_cons_zero, List.getElem?_cons_succ] at v0 v1 v2
          have fz := fun o => qR2.frozen o
          go_wp2
          obtain ⟨c9, q9⟩ := qR2.set3 (.bool false) (.slice none 0 0) (.slice none 0 0)
          have z0 := q9.cell 0
          have z1 := q9.cell 1
          have z2 := q9.cell 2
          simp only [List.getElem?_toArray, List.getElem?_cons_zero, List.getElem?_cons_succ] at z0 z1 z2
          clear v0 v1 v2
          refine bodyPost_ret (v := .tuple #[.agg #[.bool false, .slice none 0 0, .slice none 0 0], .int .i64 31]) (by rw [results_ct rfl]; go_simp) rfl ?_
          exact ⟨rfl, (ba.trans (b1.mono ba.size)).trans (c9.below (Nat.le_refl _))⟩
    · have hki : ¬ ((k : Int) < (t.size : Int)) := by omega
      have hno : k < t.size → ¬ dval (byt t k) < 10 := fun c => absurd c hlt
      obtain rfl : k = n := Lead.uniq ⟨hk, hj, hno⟩ hl
      clear hj hno
      go_wp2_with fail
      refine (RP1.out _).mono ?_
      rintro e w1 ⟨_, hbad, b1⟩
      obtain rfl := hbad H.out
      have qR2 := qR.later b1
      have v0 := qR2.cell 0
      have v1 := qR2.cell 1
      have v2 := qR2.cell 2
      simp only [List.getElem?_toArray, List.getElem?_cons_zero, List.getElem?_cons_succ] at v0 v1 v2
      have fz := fun o => qR2.frozen o
      go_wp2
      obtain ⟨c9, q9⟩ := qR2.set3 (.bool false) (.slice none 0 0) (.slice none 0 0)
      have z0 := q9.cell 0
      have z1 := q9.cell 1
      have z2 := q9.cell 2
      simp only [List.getElem?_toArray, List.getElem?_cons_zero, List.getElem?_cons_succ] at z0 z1 z2
      clear v0 v1 v2
      refine bodyPost_ret (v := .tuple #[.agg #[.bool false, .slice none 0 0, .slice none 0 0], .int .i64 31]) (by rw [results_ct rfl]; go_simp) rfl ?_
      exact ⟨rfl, (ba.trans (b1.mono ba.size)).trans (c9.below (Nat.le_refl _))⟩

end Go.Proofs.YticpdbnlbckbiaaGreatDoor
