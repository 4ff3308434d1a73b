/-
  What the reference's second loop reckons (the digits behind a point).
-/
import Derived.Test.YtjbeagbkjmaeeaaGreatDoorWX2
import Derived.Test.YtjbeagbkjmaeeaaGreatDoorWQ2
import Derived.Test.YtjbeagbkjmaeeaaGreatDoorWPT
import Derived.Test.YtjbeagbkjmaeeaaGreatDoorWT7
import Derived.Test.YtjbeagbkjmaeeaaGreatDoorWQ6
namespace Go.Proofs.YtjbeagbkjmaeeaaGreatDoor
open Go.RowKit
set_option linter.unusedVariables false

end Go.Proofs.YtjbeagbkjmaeeaaGreatDoor

namespace Go.Proofs.YtjbeagbkjmaeeaaGreatDoor
open Go.RowKit
set_option linter.unusedVariables false
set_option linter.unusedSimpArgs false

theorem Lead.uniq {t : ByteArray} {n m : Nat} (h : Lead t n) (k : Lead t m) : n = m := by
  have h1 : ¬ n < m := fun c => h.no (by have := k.le; omega) (k.dig n c)
  have h2 : ¬ m < n := fun c => k.no (by have := h.le; omega) (h.dig m c)
  omega
set_option maxHeartbeats 2000000 in
set_option maxRecDepth 100000 in
theorem vqParse_bad_pl (s t : ByteArray) (n : Nat) (hs : s.size ≤ 140737488351232) (h0 : 0 < s.size) (hm : byt s 0 ≠ 45) (hst : s = t) (hl : Lead t n) (ha : ¬ isT 10 (t.extract 0 n)) (w : World) : Calls Tryz.prog 12 #[.string s] w fun e w' => e = .returned (.tuple #[.agg #[.bool false, .slice none 0 0, .slice none 0 0], .int .i64 31]) ∧ Below w.heap.size w w' := by
  have h0i : (0 : Int) < (s.size : Int) := by omega
  have eb := byt_of h0
  have hx : (((s[0]'h0).toNat : Int) == 45) = false := by
    rw [← eb, beq_eq_false_iff_ne]; omega
  have ht : t.size ≤ s.size := by subst hst; first | exact Nat.le_refl _ | (simp only [ByteArray.size_extract]; omega)
  have ez : (t.extract 0 n).size ≤ t.size := by simp only [ByteArray.size_extract]; omega
  have RP1 := hide' (fun w' => rParse_any (t.extract 0 n) 10 (by omega) (by omega) (by omega) w')
  have ba := below_alloc (w := w) (.cells #[.bool false, .slice none 0 0, .slice none 0 0] 27)
  have qR := Blk.new w #[.bool false, .slice none 0 0, .slice none 0 0] 27
  have H := hide' ha
  clear ha
  subst hst
  go_enter Tryz.func12, Tryz.ntmps12
  go_wp2_with fail
  generalize w.alloc (.cells #[.bool false, .slice none 0 0, .slice none 0 0] 27) = W at ba qR ⊢
  go_loopw [5] (fun i wr => ∃ k : Nat, k ≤ s.size ∧ i = .int .i64 k ∧ wr = W ∧ ∀ j, j < k → dval (byt s j) < 10) (fun i _ => s.size - (intOf i).toNat)
  case atStart => exact ⟨0, Nat.zero_le _, rfl, rfl, fun j hj => by omega⟩
  case round =>
    obtain ⟨k, hk, rfl, rfl, hj⟩ := hrel
    by_cases hlt : k < s.size
    · have hki : ((k : Int) < (s.size : Int)) := by omega
      have ek := byt_of hlt
      by_cases hv : dval (byt s k) < 10
      · have hv' := dval10.1 hv
        rw [ek] at hv'
        have g1 : (48 : Int) ≤ ((s[k]'hlt).toNat : Int) := by omega
        have g2 : ((s[k]'hlt).toNat : Int) ≤ 57 := by omega
        go_wp2
        go_roundw
        case rel => exact ⟨k + 1, by omega, by go_num, by trivial, fun j hj' => by
          by_cases e : j = k
          · rw [e]; exact hv
          · exact hj j (by omega)⟩
        case measure => simp [intOf]; omega
      · have hv' : ¬ (48 ≤ byt s k ∧ byt s k ≤ 57) := fun c => hv (dval10.2 c)
        rw [ek] at hv'
        have hno : k < s.size → ¬ dval (byt s k) < 10 := fun _ => hv
        by_cases g1 : (48 : Int) ≤ ((s[k]'hlt).toNat : Int)
        · have g2 : ¬ ((s[k]'hlt).toNat : Int) ≤ 57 := by omega
          obtain rfl : k = n := Lead.uniq ⟨hk, hj, hno⟩ hl
          clear hj hno
          go_wp2_with fail
          refine (RP1.out _).mono ?_
          rintro e w1 ⟨_, hbad, b1⟩
          obtain rfl := hbad H.out
          have qR2 := qR.later b1
          have v0 := qR2.cell 0
          have v1 := qR2.cell 1
          have v2 := qR2.cell 2
          simp only [List.getElem?_toArray, List.getElem?_cons_zero, List.getElem?_cons_succ] at v0 v1 v2
          have fz := fun o => qR2.frozen o
          go_wp2
          obtain ⟨c9, q9⟩ := qR2.set3 (.bool false) (.slice none 0 0) (.slice none 0 0)
          have z0 := q9.cell 0
          have z1 := q9.cell 1
          have z2 := q9.cell 2
          simp only [List.getElem?_toArray, List.getElem?_cons_zero, List.getElem?_cons_succ] at z0 z1 z2
          clear v0 v1 v2
          refine bodyPost_ret (v := .tuple #[.agg #[.bool false, .slice none 0 0, .slice none 0 0], .int .i64 31]) (by rw [results_ct rfl]; go_simp) rfl ?_
          exact ⟨rfl, (ba.trans (b1.mono ba.size)).trans (c9.below (Nat.le_refl _))⟩
        · skip
          obtain rfl : k = n := Lead.uniq ⟨hk, hj, hno⟩ hl
          clear hj hno
          go_wp2_with fail
          refine (RP1.out _).mono ?_
          rintro e w1 ⟨_, hbad, b1⟩
          obtain rfl := hbad H.out
          have qR2 := qR.later b1
          have v0 := qR2.cell 0
          have v1 := qR2.cell 1
          have v2 := qR2.cell 2
          simp only [List.getElem?_toArray, List.getElem?_cons_zero, List.getElem?_cons_succ] at v0 v1 v2
          have fz := fun o => qR2.frozen o
          go_wp2
          obtain ⟨c9, q9⟩ := qR2.set3 (.bool false) (.slice none 0 0) (.slice none 0 0)
          have z0 := q9.cell 0
          have z1 := q9.cell 1
          have z2 := q9.cell 2
          simp only [List.getElem?_toArray, List.getElem?_cons_zero, List.getElem?_cons_succ] at z0 z1 z2
          clear v0 v1 v2
          refine bodyPost_ret (v := .tuple #[.agg #[.bool false, .slice none 0 0, .slice none 0 0], .int .i64 31]) (by rw [results_ct rfl]; go_simp) rfl ?_
          exact ⟨rfl, (ba.trans (b1.mono ba.size)).trans (c9.below (Nat.le_refl _))⟩
    · have hki : ¬ ((k : Int) < (s.size : Int)) := by omega
      have hno : k < s.size → ¬ dval (byt s k) < 10 := fun c => absurd c hlt
      obtain rfl : k = n := Lead.uniq ⟨hk, hj, hno⟩ hl
      clear hj hno
      go_wp2_with fail
      refine (RP1.out _).mono ?_
      rintro e w1 ⟨_, hbad, b1⟩
      obtain rfl := hbad H.out
      have qR2 := qR.later b1
      have v0 := qR2.cell 0
      have v1 := qR2.cell 1
      have v2 := qR2.cell 2
      simp only [List.getElem?_toArray, List.getElem?_cons_zero, List.getElem?_cons_succ] at v0 v1 v2
      have fz := fun o => qR2.frozen o
      go_wp2
      obtain ⟨c9, q9⟩ := qR2.set3 (.bool false) (.slice none 0 0) (.slice none 0 0)
      have z0 := q9.cell 0
      have z1 := q9.cell 1
      have z2 := q9.cell 2
      simp only [List.getElem?_toArray, List.getElem?_cons_zero, List.getElem?_cons_succ] at z0 z1 z2
      clear v0 v1 v2
      refine bodyPost_ret (v := .tuple #[.agg #[.bool false, .slice none 0 0, .slice none 0 0], .int .i64 31]) (by rw [results_ct rfl]; go_simp) rfl ?_
      exact ⟨rfl, (ba.trans (b1.mono ba.size)).trans (c9.below (Nat.le_refl _))⟩

set_option maxHeartbeats 2000000 in
set_option maxRecDepth 100000 in
theorem vqParse_bad_em (s t : ByteArray) (n : Nat) (hs : s.size ≤ 140737488351232) (h0 : s.size = 0) (hst : s = t) (hl : Lead t n) (ha : ¬ isT 10 (t.extract 0 n)) (w : World) : Calls Tryz.prog 12 #[.string s] w fun e w' => e = .returned (.tuple #[.agg #[.bool false, .slice none 0 0, .slice none 0 0], .int .i64 31]) ∧ Below w.heap.size w w' := by
  have h0i : ¬ (0 : Int) < (s.size : Int) := by omega
  have h0d : decide ((0 : Int) < (s.size : Int)) = false := by rw [decide_eq_false_iff_not]; omega
  have ht : t.size ≤ s.size := by subst hst; first | exact Nat.le_refl _ | (simp only [ByteArray.size_extract]; omega)
  have ez : (t.extract 0 n).size ≤ t.size := by simp only [ByteArray.size_extract]; omega
  have RP1 := hide' (fun w' => rParse_any (t.extract 0 n) 10 (by omega) (by omega) (by omega) w')
  have ba := below_alloc (w := w) (.cells #[.bool false, .slice none 0 0, .slice none 0 0] 27)
  have qR := Blk.new w #[.bool false, .slice none 0 0, .slice none 0 0] 27
  have H := hide' ha
  clear ha
  subst hst
  go_enter Tryz.func12, Tryz.ntmps12
  go_wp2_with fail
  generalize w.alloc (.cells #[.bool false, .slice none 0 0, .slice none 0 0] 27) = W at ba qR ⊢
  go_loopw [5] (fun i wr => ∃ k : Nat, k ≤ s.size ∧ i = .int .i64 k ∧ wr = W ∧ ∀ j, j < k → dval (byt s j) < 10) (fun i _ => s.size - (intOf i).toNat)
  case atStart => exact ⟨0, Nat.zero_le _, rfl, rfl, fun j hj => by omega⟩
  case round =>
    obtain ⟨k, hk, rfl, rfl, hj⟩ := hrel
    by_cases hlt : k < s.size
    · exact absurd hlt (by omega)
    · have hki : ¬ ((k : Int) < (s.size : Int)) := by omega
      have hno : k < s.size → ¬ dval (byt s k) < 10 := fun c => absurd c hlt
      obtain rfl : k = n := Lead.uniq ⟨hk, hj, hno⟩ hl
      clear hj hno
      go_wp2_with fail
      refine (RP1.out _).mono ?_
      rintro e w1 ⟨_, hbad, b1⟩
      obtain rfl := hbad H.out
      have qR2 := qR.later b1
      have v0 := qR2.cell 0
      have v1 := qR2.cell 1
      have v2 := qR2.cell 2
      simp only [List.getElem?_toArray, List.getElem?_cons_zero, List.getElem?_cons_succ] at v0 v1 v2
      have fz := fun o => qR2.frozen o
      go_wp2
      obtain ⟨c9, q9⟩ := qR2.set3 (.bool false) (.slice none 0 0) (.slice none 0 0)
      have z0 := q9.cell 0
      have z1 := q9.cell 1
      have z2 := q9.cell 2
      simp only [List.getElem?_toArray, List.getElem?_cons_zero, List.getElem?_cons_succ] at z0 z1 z2
      clear v0 v1 v2
      refine bodyPost_ret (v := .tuple #[.agg #[.bool false, .slice none 0 0, .slice none 0 0], .int .i64 31]) (by rw [results_ct rfl]; go_simp) rfl ?_
      exact ⟨rfl, (ba.trans (b1.mono ba.size)).trans (c9.below (Nat.le_refl _))⟩

set_option maxHeartbeats 2000000 in
set_option maxRecDepth 100000 in
theorem vqParse_bad_ng (s t : ByteArray) (n : Nat) (hs : s.size ≤ 140737488351232) (h0 : 0 < s.size) (hm : byt s 0 = 45) (hst : s.extract 1 s.size = t) (hl : Lead t n) (ha : ¬ isT 10 (t.extract 0 n)) (w : World) : Calls Tryz.prog 12 #[.string s] w fun e w' => e = .returned (.tuple #[.agg #[.bool false, .slice none 0 0, .slice none 0 0], .int .i64 31]) ∧ Below w.heap.size w w' := by
  have h0i : (0 : Int) < (s.size : Int) := by omega
  have eb := byt_of h0
  have hx : (((s[0]'h0).toNat : Int) == 45) = true := by
    rw [← eb, beq_iff_eq]; omega
  have h1i : (1 : Int) ≤ (s.size : Int) := by omega
  have h1n : 1 ≤ s.size := by omega
  have ht : t.size ≤ s.size := by subst hst; first | exact Nat.le_refl _ | (simp only [ByteArray.size_extract]; omega)
  have ez : (t.extract 0 n).size ≤ t.size := by simp only [ByteArray.size_extract]; omega
  have RP1 := hide' (fun w' => rParse_any (t.extract 0 n) 10 (by omega) (by omega) (by omega) w')
  have ba := below_alloc (w := w) (.cells #[.bool false, .slice none 0 0, .slice none 0 0] 27)
  have qR := Blk.new w #[.bool false, .slice none 0 0, .slice none 0 0] 27
  have H := hide' ha
  clear ha
  go_enter Tryz.func12, Tryz.ntmps12
  go_wp2_with fail
  try rw [hst]
  generalize w.alloc (.cells #[.bool false, .slice none 0 0, .slice none 0 0] 27) = W at ba qR ⊢
  go_loopw [5] (fun i wr => ∃ k : Nat, k ≤ t.size ∧ i = .int .i64 k ∧ wr = W ∧ ∀ j, j < k → dval (byt t j) < 10) (fun i _ => t.size - (intOf i).toNat)
  case atStart => exact ⟨0, Nat.zero_le _, rfl, rfl, fun j hj => by omega⟩
  case round =>
    obtain ⟨k, hk, rfl, rfl, hj⟩ := hrel
    by_cases hlt : k < t.size
    · have hki : ((k : Int) < (t.size : Int)) := by omega
      have ek := byt_of hlt
      by_cases hv : dval (byt t k) < 10
      · have hv' := dval10.1 hv
        rw [ek] at hv'
        have g1 : (48 : Int) ≤ ((t[k]'hlt).toNat : Int) := by omega
        have g2 : ((t[k]'hlt).toNat : Int) ≤ 57 := by omega
        go_wp2
        go_roundw
        case rel => exact ⟨k + 1, by omega, by go_num, by trivial, fun j hj' => by
          by_cases e : j = k
          · rw [e]; exact hv
          · exact hj j (by omega)⟩
        case measure => simp [intOf]; omega
      · have hv' : ¬ (48 ≤ byt t k ∧ byt t k ≤ 57) := fun c => hv (dval10.2 c)
        rw [ek] at hv'
        have hno : k < t.size → ¬ dval (byt t k) < 10 := fun _ => hv
        by_cases g1 : (48 : Int) ≤ ((t[k]'hlt).toNat : Int)
        · have g2 : ¬ ((t[k]'hlt).toNat : Int) ≤ 57 := by omega
          obtain rfl : k = n := Lead.uniq ⟨hk, hj, hno⟩ hl
          clear hj hno
          go_wp2_with fail
          refine (RP1.out _).mono ?_
          rintro e w1 ⟨_, hbad, b1⟩
          obtain rfl := hbad H.out
          have qR2 := qR.later b1
          have v0 := qR2.cell 0
          have v1 := qR2.cell 1
          have v2 := qR2.cell 2
          simp only [List.getElem?_toArray, List.getElem?_cons_zero, List.getElem?_cons_succ] at v0 v1 v2
          have fz := fun o => qR2.frozen o
          go_wp2
          obtain ⟨c9, q9⟩ := qR2.set3 (.bool false) (.slice none 0 0) (.slice none 0 0)
          have z0 := q9.cell 0
          have z1 := q9.cell 1
          have z2 := q9.cell 2
          simp only [List.getElem?_toArray, List.getElem?_cons_zero, List.getElem?_cons_succ] at z0 z1 z2
          clear v0 v1 v2
          refine bodyPost_ret (v := .tuple #[.agg #[.bool false, .slice none 0 0, .slice none 0 0], .int .i64 31]) (by rw [results_ct rfl]; go_simp) rfl ?_
          exact ⟨rfl, (ba.trans (b1.mono ba.size)).trans (c9.below (Nat.le_refl _))⟩
        · skip
          obtain rfl : k = n := Lead.uniq ⟨hk, hj, hno⟩ hl
          clear hj hno
          go_wp2_with fail
          refine (RP1.out _).mono ?_
          rintro e w1 ⟨_, hbad, b1⟩
          obtain rfl := hbad H.out
          have qR2 := qR.later b1
          have v0 := qR2.cell 0
          have v1 := qR2.cell 1
          have v2 := qR2.cell 2
          simp only [List.getElem?_toArray, List.getElem?_cons_zero, List.getElem?_cons_succ] at v0 v1 v2
          have fz := fun o => qR2.frozen o
          go_wp2
          obtain ⟨c9, q9⟩ := qR2.set3 (.bool false) (.slice none 0 0) (.slice none 0 0)
          have z0 := q9.cell 0
          have z1 := q9.cell 1
          have z2 := q9.cell 2
          simp only [List.getElem?_toArray, List.getElem?_cons_zero, List.getElem?_cons_succ] at z0 z1 z2
          clear v0 v1 v2
          refine bodyPost_ret (v := .tuple #[.agg #[.bool false, .slice none 0 0, .slice none 0 0], .int .i64 31]) (by rw [results_ct rfl]; go_simp) rfl ?_
          exact ⟨rfl, (ba.trans (b1.mono ba.size)).trans (c9.below (Nat.le_refl _))⟩
    · have hki : ¬ ((k : Int) < (t.size : Int)) := by omega
      have hno : k < t.size → ¬ dval (byt t k) < 10 := fun c => absurd c hlt
      obtain rfl : k = n := Lead.uniq ⟨hk, hj, hno⟩ hl
      clear hj hno
      go_wp2_with fail
      refine (RP1.out _).mono ?_
      rintro e w1 ⟨_, hbad, b1⟩
      obtain rfl := hbad H.out
      have qR2 := qR.later b1
      have v0 := qR2.cell 0
      have v1 := qR2.cell 1
      have v2 := qR2.cell 2
      simp only [List.getElem?_toArray, List.getElem?_cons_zero, List.getElem?_cons_succ] at v0 v1 v2
      have fz := fun o => qR2.frozen o
      go_wp2
      obtain ⟨c9, q9⟩ := qR2.set3 (.bool false) (.slice none 0 0) (.slice none 0 0)
      have z0 := q9.cell 0
      have z1 := q9.cell 1
      have z2 := q9.cell 2
      simp only [List.getElem?_toArray, List.getElem?_cons_zero, List.getElem?_cons_succ] at z0 z1 z2
      clear v0 v1 v2
      refine bodyPost_ret (v := .tuple #[.agg #[.bool false, .slice none 0 0, .slice none 0 0], .int .i64 31]) (by rw [results_ct rfl]; go_simp) rfl ?_
      exact ⟨rfl, (ba.trans (b1.mono ba.size)).trans (c9.below (Nat.le_refl _))⟩

end Go.Proofs.YtjbeagbkjmaeeaaGreatDoor

namespace Go.Proofs.YtjbeagbkjmaeeaaGreatDoor
open Go.RowKit
set_option linter.unusedVariables false
set_option linter.unusedSimpArgs false

theorem rParse_ok (s : ByteArray) (X : Nat) (hs : s.size ≤ 140737488355328) (h : isT 10 s) (hX : val 10 s = X) (w : World) :
    Calls Tryz.prog 26 #[.string s, .int .i64 10] w fun e w' => ∃ a, e = .returned (.tuple #[.slice a (ln X) (ln X), .int .i64 0]) ∧ Seg w' a X (ln X) ∧ Below w.heap.size w w' := by
  subst hX
  exact (rParse_any s 10 (by omega) (by omega) hs w).mono fun e w' ⟨h1, _, h3⟩ => by
    obtain ⟨a, h4, h5⟩ := h1 h
    exact ⟨a, h4, h5, h3⟩
theorem rParse_no (s : ByteArray) (hs : s.size ≤ 140737488355328) (h : ¬ isT 10 s) (w : World) :
    Calls Tryz.prog 26 #[.string s, .int .i64 10] w fun e w' => e = .returned (.tuple #[.slice none 0 0, .int .i64 15]) ∧ Below w.heap.size w w' :=
  (rParse_any s 10 (by omega) (by omega) hs w).mono fun e w' ⟨_, h2, h3⟩ => ⟨h2 h, h3⟩
theorem ext_ext {t u : ByteArray} {n : Nat} (hn : n ≤ t.size) (hu : t.extract n t.size = u) : u.extract 1 u.size = t.extract (n + 1) t.size := by
  rw [← hu, ByteArray.extract_extract]
  have : (t.extract n t.size).size = t.size - n := by simp only [ByteArray.size_extract]; omega
  rw [this]
  congr 1
  omega
set_option maxHeartbeats 4000000 in
set_option maxRecDepth 100000 in
theorem vqParse_other_pl (s t : ByteArray) (n X : Nat) (hs : s.size ≤ 140737488351232) (h0 : 0 < s.size) (hm : byt s 0 ≠ 45) (hst : s = t) (hl : Lead t n) (ha : isT 10 (t.extract 0 n)) (hX : val 10 (t.extract 0 n) = X) (hn : n < t.size) (h47 : byt t n ≠ 47) (h46 : byt t n ≠ 46) (w : World) : Calls Tryz.prog 12 #[.string s] w fun e w' => e = .returned (.tuple #[.agg #[.bool false, .slice none 0 0, .slice none 0 0], .int .i64 31]) ∧ Below w.heap.size w w' := by
  have h0i : (0 : Int) < (s.size : Int) := by omega
  have eb := byt_of h0
  have hx : (((s[0]'h0).toNat : Int) == 45) = false := by
    rw [← eb, beq_eq_false_iff_ne]; omega
  have ht : t.size ≤ s.size := by subst hst; first | exact Nat.le_refl _ | (simp only [ByteArray.size_extract]; omega)
  have ez : (t.extract 0 n).size ≤ t.size := by simp only [ByteArray.size_extract]; omega
  have RPo := hide' (fun w' => rParse_ok (t.extract 0 n) X (by omega) ha hX w')
  have lX : ln X ≤ 35184372088000 := by rw [← hX]; have := val_ln ha.2.2; omega
  have ba := below_alloc (w := w) (.cells #[.bool false, .slice none 0 0, .slice none 0 0] 27)
  have qR := Blk.new w #[.bool false, .slice none 0 0, .slice none 0 0] 27
  obtain ⟨u, hu⟩ : ∃ u, t.extract n t.size = u := ⟨_, rfl⟩
  have hus : u.size = t.size - n := by rw [← hu]; simp only [ByteArray.size_extract]; omega
  have hsl : ∀ wx : World, (Instr.slice 9 (.string t) (some (.int .i64 (n : Nat))) none none).run Tryz.prog wx = .ok (.string u) wx := fun wx => by
    have h := run_slice_string_l (P := Tryz.prog) (t := 9) (s := t) (w := wx) Tryz.underlying9 .i64 (n : Nat) (by omega) (by have := hl.le; omega)
    rw [Int.toNat_natCast, hu] at h
    exact h
  have h0u : 0 < u.size := by omega
  have h0ui : (0 : Int) < (u.size : Int) := by omega
  have hz : ((u.size : Int) == 0) = false := by rw [beq_eq_false_iff_ne]; omega
  have eu : (u[0]'h0u).toNat = byt t n := by
    rw [← byt_of h0u, ← hu, byt_extract (Nat.le_refl _) (by omega), Nat.add_zero]
  have x47 : (((u[0]'h0u).toNat : Int) == 47) = false := by rw [eu, beq_eq_false_iff_ne]; omega
  have x46 : (((u[0]'h0u).toNat : Int) == 46) = false := by rw [eu, beq_eq_false_iff_ne]; omega
  clear eu
  clear hu hus ha hX
  subst hst
  go_enter Tryz.func12, Tryz.ntmps12
  go_wp2_with fail
  generalize w.alloc (.cells #[.bool false, .slice none 0 0, .slice none 0 0] 27) = W at ba qR ⊢
  go_loopw [5] (fun i wr => ∃ k : Nat, k ≤ s.size ∧ i = .int .i64 k ∧ wr = W ∧ ∀ j, j < k → dval (byt s j) < 10) (fun i _ => s.size - (intOf i).toNat)
  case atStart => exact ⟨0, Nat.zero_le _, rfl, rfl, fun j hj => by omega⟩
  case round =>
    obtain ⟨k, hk, rfl, rfl, hj⟩ := hrel
    by_cases hlt : k < s.size
    · have hki : ((k : Int) < (s.size : Int)) := by omega
      have ek := byt_of hlt
      by_cases hv : dval (byt s k) < 10
      · have hv' := dval10.1 hv
        rw [ek] at hv'
        have g1 : (48 : Int) ≤ ((s[k]'hlt).toNat : Int) := by omega
        have g2 : ((s[k]'hlt).toNat : Int) ≤ 57 := by omega
        go_wp2
        go_roundw
        case rel => exact ⟨k + 1, by omega, by go_num, by trivial, fun j hj' => by
          by_cases e : j = k
          · rw [e]; exact hv
          · exact hj j (by omega)⟩
        case measure => simp [intOf]; omega
      · have hv' : ¬ (48 ≤ byt s k ∧ byt s k ≤ 57) := fun c => hv (dval10.2 c)
        rw [ek] at hv'
        have hno : k < s.size → ¬ dval (byt s k) < 10 := fun _ => hv
        by_cases g1 : (48 : Int) ≤ ((s[k]'hlt).toNat : Int)
        · have g2 : ¬ ((s[k]'hlt).toNat : Int) ≤ 57 := by omega
          obtain rfl : k = n := Lead.uniq ⟨hk, hj, hno⟩ hl
          clear hj hno
          go_wp2_with fail
          refine (RPo.out _).mono ?_
          rintro e w1 ⟨a1, rfl, g1s, b1⟩
          have bb := ba
          replace bb := bb.trans (b1.mono bb.size)
          replace qR := qR.later b1
          clear b1 RPo
          have v0 := qR.cell 0
          have v1 := qR.cell 1
          have v2 := qR.cell 2
          simp only [List.getElem?_toArray, List.getElem?_cons_zero, List.getElem?_cons_succ] at v0 v1 v2
          have fz := fun o => qR.frozen o
          go_wp2
          obtain ⟨c9, q9⟩ := qR.set3 (.bool false) (.slice none 0 0) (.slice none 0 0)
          have z0 := q9.cell 0
          have z1 := q9.cell 1
          have z2 := q9.cell 2
          simp only [List.getElem?_toArray, List.getElem?_cons_zero, List.getElem?_cons_succ] at z0 z1 z2
          clear v0 v1 v2
          refine bodyPost_ret (v := .tuple #[.agg #[.bool false, .slice none 0 0, .slice none 0 0], .int .i64 31]) (by rw [results_ct rfl]; go_simp) rfl ?_
          exact ⟨rfl, bb.trans (c9.below (Nat.le_refl _))⟩
        · skip
          obtain rfl : k = n := Lead.uniq ⟨hk, hj, hno⟩ hl
          clear hj hno
          go_wp2_with fail
          refine (RPo.out _).mono ?_
          rintro e w1 ⟨a1, rfl, g1s, b1⟩
          have bb := ba
          replace bb := bb.trans (b1.mono bb.size)
          replace qR := qR.later b1
          clear b1 RPo
          have v0 := qR.cell 0
          have v1 := qR.cell 1
          have v2 := qR.cell 2
          simp only [List.getElem?_toArray, List.getElem?_cons_zero, List.getElem?_cons_succ] at v0 v1 v2
          have fz := fun o => qR.frozen o
          go_wp2
          obtain ⟨c9, q9⟩ := qR.set3 (.bool false) (.slice none 0 0) (.slice none 0 0)
          have z0 := q9.cell 0
          have z1 := q9.cell 1
          have z2 := q9.cell 2
          simp only [List.getElem?_toArray, List.getElem?_cons_zero, List.getElem?_cons_succ] at z0 z1 z2
          clear v0 v1 v2
          refine bodyPost_ret (v := .tuple #[.agg #[.bool false, .slice none 0 0, .slice none 0 0], .int .i64 31]) (by rw [results_ct rfl]; go_simp) rfl ?_
          exact ⟨rfl, bb.trans (c9.below (Nat.le_refl _))⟩
    · have hki : ¬ ((k : Int) < (s.size : Int)) := by omega
      have hno : k < s.size → ¬ dval (byt s k) < 10 := fun c => absurd c hlt
      obtain rfl : k = n := Lead.uniq ⟨hk, hj, hno⟩ hl
      exact absurd hn hlt

set_option maxHeartbeats 4000000 in
set_option maxRecDepth 100000 in
theorem vqParse_other_ng (s t : ByteArray) (n X : Nat) (hs : s.size ≤ 140737488351232) (h0 : 0 < s.size) (hm : byt s 0 = 45) (hst : s.extract 1 s.size = t) (hl : Lead t n) (ha : isT 10 (t.extract 0 n)) (hX : val 10 (t.extract 0 n) = X) (hn : n < t.size) (h47 : byt t n ≠ 47) (h46 : byt t n ≠ 46) (w : World) : Calls Tryz.prog 12 #[.string s] w fun e w' => e = .returned (.tuple #[.agg #[.bool false, .slice none 0 0, .slice none 0 0], .int .i64 31]) ∧ Below w.heap.size w w' := by
  have h0i : (0 : Int) < (s.size : Int) := by omega
  have eb := byt_of h0
  have hx : (((s[0]'h0).toNat : Int) == 45) = true := by
    rw [← eb, beq_iff_eq]; omega
  have h1i : (1 : Int) ≤ (s.size : Int) := by omega
  have h1n : 1 ≤ s.size := by omega
  have ht : t.size ≤ s.size := by subst hst; first | exact Nat.le_refl _ | (simp only [ByteArray.size_extract]; omega)
  have ez : (t.extract 0 n).size ≤ t.size := by simp only [ByteArray.size_extract]; omega
  have RPo := hide' (fun w' => rParse_ok (t.extract 0 n) X (by omega) ha hX w')
  have lX : ln X ≤ 35184372088000 := by rw [← hX]; have := val_ln ha.2.2; omega
  have ba := below_alloc (w := w) (.cells #[.bool false, .slice none 0 0, .slice none 0 0] 27)
  have qR := Blk.new w #[.bool false, .slice none 0 0, .slice none 0 0] 27
  obtain ⟨u, hu⟩ : ∃ u, t.extract n t.size = u := ⟨_, rfl⟩
  have hus : u.size = t.size - n := by rw [← hu]; simp only [ByteArray.size_extract]; omega
  have hsl : ∀ wx : World, (Instr.slice 9 (.string t) (some (.int .i64 (n : Nat))) none none).run Tryz.prog wx = .ok (.string u) wx := fun wx => by
    have h := run_slice_string_l (P := Tryz.prog) (t := 9) (s := t) (w := wx) Tryz.underlying9 .i64 (n : Nat) (by omega) (by have := hl.le; omega)
    rw [Int.toNat_natCast, hu] at h
    exact h
  have h0u : 0 < u.size := by omega
  have h0ui : (0 : Int) < (u.size : Int) := by omega
  have hz : ((u.size : Int) == 0) = false := by rw [beq_eq_false_iff_ne]; omega
  have eu : (u[0]'h0u).toNat = byt t n := by
    rw [← byt_of h0u, ← hu, byt_extract (Nat.le_refl _) (by omega), Nat.add_zero]
  have x47 : (((u[0]'h0u).toNat : Int) == 47) = false := by rw [eu, beq_eq_false_iff_ne]; omega
  have x46 : (((u[0]'h0u).toNat : Int) == 46) = false := by rw [eu, beq_eq_false_iff_ne]; omega
  clear eu
  clear hu hus ha hX
  go_enter Tryz.func12, Tryz.ntmps12
  go_wp2_with fail
  try rw [hst]
  generalize w.alloc (.cells #[.bool false, .slice none 0 0, .slice none 0 0] 27) = W at ba qR ⊢
  go_loopw [5] (fun i wr => ∃ k : Nat, k ≤ t.size ∧ i = .int .i64 k ∧ wr = W ∧ ∀ j, j < k → dval (byt t j) < 10) (fun i _ => t.size - (intOf i).toNat)
  case atStart => exact ⟨0, Nat.zero_le _, rfl, rfl, fun j hj => by omega⟩
  case round =>
    obtain ⟨k, hk, rfl, rfl, hj⟩ := hrel
    by_cases hlt : k < t.size
    · have hki : ((k : Int) < (t.size : Int)) := by omega
      have ek := byt_of hlt
      by_cases hv : dval (byt t k) < 10
      · have hv' := dval10.1 hv
        rw [ek] at hv'
        have g1 : (48 : Int) ≤ ((t[k]'hlt).toNat : Int) := by omega
        have g2 : ((t[k]'hlt).toNat : Int) ≤ 57 := by omega
        go_wp2
        go_roundw
        case rel => exact ⟨k + 1, by omega, by go_num, by trivial, fun j hj' => by
          by_cases e : j = k
          · rw [e]; exact hv
          · exact hj j (by omega)⟩
        case measure => simp [intOf]; omega
      · have hv' : ¬ (48 ≤ byt t k ∧ byt t k ≤ 57) := fun c => hv (dval10.2 c)
        rw [ek] at hv'
        have hno : k < t.size → ¬ dval (byt t k) < 10 := fun _ => hv
        by_cases g1 : (48 : Int) ≤ ((t[k]'hlt).toNat : Int)
        · have g2 : ¬ ((t[k]'hlt).toNat : Int) ≤ 57 := by omega
          obtain rfl : k = n := Lead.uniq ⟨hk, hj, hno⟩ hl
          clear hj hno
          go_wp2_with fail
          refine (RPo.out _).mono ?_
          rintro e w1 ⟨a1, rfl, g1s, b1⟩
          have bb := ba
          replace bb := bb.trans (b1.mono bb.size)
          replace qR := qR.later b1
          clear b1 RPo
          have v0 := qR.cell 0
          have v1 := qR.cell 1
          have v2 := qR.cell 2
          simp only [List.getElem?_toArray, List.getElem?_cons_zero, List.getElem?_cons_succ] at v0 v1 v2
          have fz := fun o => qR.frozen o
          go_wp2
          obtain ⟨c9, q9⟩ := qR.set3 (.bool false) (.slice none 0 0) (.slice none 0 0)
          have z0 := q9.cell 0
          have z1 := q9.cell 1
          have z2 := q9.cell 2
          simp only [List.getElem?_toArray, List.getElem?_cons_zero, List.getElem?_cons_succ] at z0 z1 z2
          clear v0 v1 v2
          refine bodyPost_ret (v := .tuple #[.agg #[.bool false, .slice none 0 0, .slice none 0 0], .int .i64 31]) (by rw [results_ct rfl]; go_simp) rfl ?_
          exact ⟨rfl, bb.trans (c9.below (Nat.le_refl _))⟩
        · skip
          obtain rfl : k = n := Lead.uniq ⟨hk, hj, hno⟩ hl
          clear hj hno
          go_wp2_with fail
          refine (RPo.out _).mono ?_
          rintro e w1 ⟨a1, rfl, g1s, b1⟩
          have bb := ba
          replace bb := bb.trans (b1.mono bb.size)
          replace qR := qR.later b1
          clear b1 RPo
          have v0 := qR.cell 0
          have v1 := qR.cell 1
          have v2 := qR.cell 2
          simp only [List.getElem?_toArray, List.getElem?_cons_zero, List.getElem?_cons_succ] at v0 v1 v2
          have fz := fun o => qR.frozen o
          go_wp2
          obtain ⟨c9, q9⟩ := qR.set3 (.bool false) (.slice none 0 0) (.slice none 0 0)
          have z0 := q9.cell 0
          have z1 := q9.cell 1
          have z2 := q9.cell 2
          simp only [List.getElem?_toArray, List.getElem?_cons_zero, List.getElem?_cons_succ] at z0 z1 z2
          clear v0 v1 v2
          refine bodyPost_ret (v := .tuple #[.agg #[.bool false, .slice none 0 0, .slice none 0 0], .int .i64 31]) (by rw [results_ct rfl]; go_simp) rfl ?_
          exact ⟨rfl, bb.trans (c9.below (Nat.le_refl _))⟩
    · have hki : ¬ ((k : Int) < (t.size : Int)) := by omega
      have hno : k < t.size → ¬ dval (byt t k) < 10 := fun c => absurd c hlt
      obtain rfl : k = n := Lead.uniq ⟨hk, hj, hno⟩ hl
      exact absurd hn hlt

set_option maxHeartbeats 4000000 in
set_option maxRecDepth 100000 in
theorem vqParse_whole_pl (s t : ByteArray) (n X : Nat) (V : Nat) (Z : Int) (hs : s.size ≤ 140737488351232) (h0 : 0 < s.size) (hm : byt s 0 ≠ 45) (hst : s = t) (hl : Lead t n) (ha : isT 10 (t.extract 0 n)) (hX : val 10 (t.extract 0 n) = X) (hn : n = t.size) (hL : Low (sg false X) (1 : Int) Z V) (w : World) : Calls Tryz.prog 12 #[.string s] w fun e w' => ∃ p q, e = .returned (.tuple #[.agg #[.bool (ng Z), .slice p (ln (am Z)) (ln (am Z)), .slice q (ln V) (ln V)], .int .i64 0]) ∧ Below w.heap.size w w' ∧ Seg w' p (am Z) (ln (am Z)) ∧ Seg w' q V (ln V) := by
  have h0i : (0 : Int) < (s.size : Int) := by omega
  have eb := byt_of h0
  have hx : (((s[0]'h0).toNat : Int) == 45) = false := by
    rw [← eb, beq_eq_false_iff_ne]; omega
  have ht : t.size ≤ s.size := by subst hst; first | exact Nat.le_refl _ | (simp only [ByteArray.size_extract]; omega)
  have ez : (t.extract 0 n).size ≤ t.size := by simp only [ByteArray.size_extract]; omega
  have RPo := hide' (fun w' => rParse_ok (t.extract 0 n) X (by omega) ha hX w')
  have lX : ln X ≤ 35184372088000 := by rw [← hX]; have := val_ln ha.2.2; omega
  have ba := below_alloc (w := w) (.cells #[.bool false, .slice none 0 0, .slice none 0 0] 27)
  have qR := Blk.new w #[.bool false, .slice none 0 0, .slice none 0 0] 27
  obtain ⟨u, hu⟩ : ∃ u, t.extract n t.size = u := ⟨_, rfl⟩
  have hus : u.size = t.size - n := by rw [← hu]; simp only [ByteArray.size_extract]; omega
  have hsl : ∀ wx : World, (Instr.slice 9 (.string t) (some (.int .i64 (n : Nat))) none none).run Tryz.prog wx = .ok (.string u) wx := fun wx => by
    have h := run_slice_string_l (P := Tryz.prog) (t := 9) (s := t) (w := wx) Tryz.underlying9 .i64 (n : Nat) (by omega) (by have := hl.le; omega)
    rw [Int.toNat_natCast, hu] at h
    exact h
  have hz : ((u.size : Int) == 0) = true := by rw [beq_iff_eq]; omega
  clear hu hus ha hX
  have HL := hide' (show Low (rn false X 1) (rd 1 : Nat) Z V by rw [rn_of (by omega), rd_of (by omega)]; exact hL)
  clear hL
  have hb25 : ∀ (wx : World) (a : Option Addr) (i j : Nat), (Instr.build 25 #[(0, .bool false), (1, .slice a i j)]).run Tryz.prog wx = .ok (.agg #[.bool false, .slice a i j]) wx := fun wx a i j => by go_simp
  have hb27 : ∀ (wx : World) (a b : Option Addr) (i j k l : Nat), (Instr.build 27 #[(0, .agg #[.bool false, .slice a i j]), (1, .slice b k l)]).run Tryz.prog wx = .ok (.agg #[.bool false, .slice a i j, .slice b k l]) wx := fun wx a b i j k l => by go_simp
  subst hst
  go_enter Tryz.func12, Tryz.ntmps12
  go_wp2_with fail
  generalize w.alloc (.cells #[.bool false, .slice none 0 0, .slice none 0 0] 27) = W at ba qR ⊢
  go_loopw [5] (fun i wr => ∃ k : Nat, k ≤ s.size ∧ i = .int .i64 k ∧ wr = W ∧ ∀ j, j < k → dval (byt s j) < 10) (fun i _ => s.size - (intOf i).toNat)
  case atStart => exact ⟨0, Nat.zero_le _, rfl, rfl, fun j hj => by omega⟩
  case round =>
    obtain ⟨k, hk, rfl, rfl, hj⟩ := hrel
    by_cases hlt : k < s.size
    · have hki : ((k : Int) < (s.size : Int)) := by omega
      have ek := byt_of hlt
      by_cases hv : dval (byt s k) < 10
      · have hv' := dval10.1 hv
        rw [ek] at hv'
        have g1 : (48 : Int) ≤ ((s[k]'hlt).toNat : Int) := by omega
        have g2 : ((s[k]'hlt).toNat : Int) ≤ 57 := by omega
        go_wp2
        go_roundw
        case rel => exact ⟨k + 1, by omega, by go_num, by trivial, fun j hj' => by
          by_cases e : j = k
          · rw [e]; exact hv
          · exact hj j (by omega)⟩
        case measure => simp [intOf]; omega
      · have hv' : ¬ (48 ≤ byt s k ∧ byt s k ≤ 57) := fun c => hv (dval10.2 c)
        rw [ek] at hv'
        have hno : k < s.size → ¬ dval (byt s k) < 10 := fun _ => hv
        by_cases g1 : (48 : Int) ≤ ((s[k]'hlt).toNat : Int)
        · have g2 : ¬ ((s[k]'hlt).toNat : Int) ≤ 57 := by omega
          obtain rfl : k = n := Lead.uniq ⟨hk, hj, hno⟩ hl
          exact absurd hlt (by omega)
        · skip
          obtain rfl : k = n := Lead.uniq ⟨hk, hj, hno⟩ hl
          exact absurd hlt (by omega)
    · have hki : ¬ ((k : Int) < (s.size : Int)) := by omega
      have hno : k < s.size → ¬ dval (byt s k) < 10 := fun c => absurd c hlt
      obtain rfl : k = n := Lead.uniq ⟨hk, hj, hno⟩ hl
      clear hn
      clear hj hno
      go_wp2_with fail
      refine (RPo.out _).mono ?_
      rintro e w1 ⟨a1, rfl, g1s, b1⟩
      have bb := ba
      replace bb := bb.trans (b1.mono bb.size)
      replace qR := qR.later b1
      clear b1 RPo
      have nd := single_new w1 1 58 1 (by omega) rfl
      have b2 := nd.below
      replace bb := bb.trans (b2.mono bb.size)
      replace qR := qR.later b2
      replace g1s := segL b2 g1s
      clear b2
      have HN := hide' (vqNorm_is false a1 (ln X) (ln X) X (some ⟨w1.heap.size, 0, none⟩) 1 1 1 V Z _ (by omega) g1s (by omega) nd.seg HL.out)
      go_wp2_with fail
      refine HN.out.mono ?_
      clear HN
      rintro e w3 ⟨p3, q3, rfl, n3, n4⟩
      have b3 := n3.below
      replace bb := bb.trans (b3.mono bb.size)
      replace qR := qR.later b3
      clear b3
      have v0 := qR.cell 0
      have v1 := qR.cell 1
      have v2 := qR.cell 2
      simp only [List.getElem?_toArray, List.getElem?_cons_zero, List.getElem?_cons_succ] at v0 v1 v2
      have fz := fun o => qR.frozen o
      go_wp2
      obtain ⟨c9, q9⟩ := qR.set3 (.bool (ng Z)) (.slice p3 (ln (am Z)) (ln (am Z))) (.slice q3 (ln V) (ln V))
      have hno := qR.no (by simp)
      have z0 := q9.cell 0
      have z1 := q9.cell 1
      have z2 := q9.cell 2
      simp only [List.getElem?_toArray, List.getElem?_cons_zero, List.getElem?_cons_succ] at z0 z1 z2
      clear v0 v1 v2
      have b9 := bb.trans (c9.below (Nat.le_refl _))
      refine bodyPost_ret (v := .tuple #[.agg #[.bool (ng Z), .slice p3 (ln (am Z)) (ln (am Z)), .slice q3 (ln V) (ln V)], .int .i64 0]) (by rw [results_ct rfl]; go_simp) rfl ?_
      exact ⟨p3, q3, rfl, b9, n3.seg.ch c9 hno, n4.seg.ch c9 hno⟩

set_option maxHeartbeats 4000000 in
set_option maxRecDepth 100000 in
theorem vqParse_whole_ng (s t : ByteArray) (n X : Nat) (V : Nat) (Z : Int) (hs : s.size ≤ 140737488351232) (h0 : 0 < s.size) (hm : byt s 0 = 45) (hst : s.extract 1 s.size = t) (hl : Lead t n) (ha : isT 10 (t.extract 0 n)) (hX : val 10 (t.extract 0 n) = X) (hn : n = t.size) (hL : Low (sg true X) (1 : Int) Z V) (w : World) : Calls Tryz.prog 12 #[.string s] w fun e w' => ∃ p q, e = .returned (.tuple #[.agg #[.bool (ng Z), .slice p (ln (am Z)) (ln (am Z)), .slice q (ln V) (ln V)], .int .i64 0]) ∧ Below w.heap.size w w' ∧ Seg w' p (am Z) (ln (am Z)) ∧ Seg w' q V (ln V) := by
  have h0i : (0 : Int) < (s.size : Int) := by omega
  have eb := byt_of h0
  have hx : (((s[0]'h0).toNat : Int) == 45) = true := by
    rw [← eb, beq_iff_eq]; omega
  have h1i : (1 : Int) ≤ (s.size : Int) := by omega
  have h1n : 1 ≤ s.size := by omega
  have ht : t.size ≤ s.size := by subst hst; first | exact Nat.le_refl _ | (simp only [ByteArray.size_extract]; omega)
  have ez : (t.extract 0 n).size ≤ t.size := by simp only [ByteArray.size_extract]; omega
  have RPo := hide' (fun w' => rParse_ok (t.extract 0 n) X (by omega) ha hX w')
  have lX : ln X ≤ 35184372088000 := by rw [← hX]; have := val_ln ha.2.2; omega
  have ba := below_alloc (w := w) (.cells #[.bool false, .slice none 0 0, .slice none 0 0] 27)
  have qR := Blk.new w #[.bool false, .slice none 0 0, .slice none 0 0] 27
  obtain ⟨u, hu⟩ : ∃ u, t.extract n t.size = u := ⟨_, rfl⟩
  have hus : u.size = t.size - n := by rw [← hu]; simp only [ByteArray.size_extract]; omega
  have hsl : ∀ wx : World, (Instr.slice 9 (.string t) (some (.int .i64 (n : Nat))) none none).run Tryz.prog wx = .ok (.string u) wx := fun wx => by
    have h := run_slice_string_l (P := Tryz.prog) (t := 9) (s := t) (w := wx) Tryz.underlying9 .i64 (n : Nat) (by omega) (by have := hl.le; omega)
    rw [Int.toNat_natCast, hu] at h
    exact h
  have hz : ((u.size : Int) == 0) = true := by rw [beq_iff_eq]; omega
  clear hu hus ha hX
  have HL := hide' (show Low (rn true X 1) (rd 1 : Nat) Z V by rw [rn_of (by omega), rd_of (by omega)]; exact hL)
  clear hL
  have hb25 : ∀ (wx : World) (a : Option Addr) (i j : Nat), (Instr.build 25 #[(0, .bool true), (1, .slice a i j)]).run Tryz.prog wx = .ok (.agg #[.bool true, .slice a i j]) wx := fun wx a i j => by go_simp
  have hb27 : ∀ (wx : World) (a b : Option Addr) (i j k l : Nat), (Instr.build 27 #[(0, .agg #[.bool true, .slice a i j]), (1, .slice b k l)]).run Tryz.prog wx = .ok (.agg #[.bool true, .slice a i j, .slice b k l]) wx := fun wx a b i j k l => by go_simp
  go_enter Tryz.func12, Tryz.ntmps12
  go_wp2_with fail
  try rw [hst]
  generalize w.alloc (.cells #[.bool false, .slice none 0 0, .slice none 0 0] 27) = W at ba qR ⊢
  go_loopw [5] (fun i wr => ∃ k : Nat, k ≤ t.size ∧ i = .int .i64 k ∧ wr = W ∧ ∀ j, j < k → dval (byt t j) < 10) (fun i _ => t.size - (intOf i).toNat)
  case atStart => exact ⟨0, Nat.zero_le _, rfl, rfl, fun j hj => by omega⟩
  case round =>
    obtain ⟨k, hk, rfl, rfl, hj⟩ := hrel
    by_cases hlt : k < t.size
    · have hki : ((k : Int) < (t.size : Int)) := by omega
      have ek := byt_of hlt
      by_cases hv : dval (byt t k) < 10
      · have hv' := dval10.1 hv
        rw [ek] at hv'
        have g1 : (48 : Int) ≤ ((t[k]'hlt).toNat : Int) := by omega
        have g2 : ((t[k]'hlt).toNat : Int) ≤ 57 := by omega
        go_wp2
        go_roundw
        case rel => exact ⟨k + 1, by omega, by go_num, by trivial, fun j hj' => by
          by_cases e : j = k
          · rw [e]; exact hv
          · exact hj j (by omega)⟩
        case measure => simp [intOf]; omega
      · have hv' : ¬ (48 ≤ byt t k ∧ byt t k ≤ 57) := fun c => hv (dval10.2 c)
        rw [ek] at hv'
        have hno : k < t.size → ¬ dval (byt t k) < 10 := fun _ => hv
        by_cases g1 : (48 : Int) ≤ ((t[k]'hlt).toNat : Int)
        · have g2 : ¬ ((t[k]'hlt).toNat : Int) ≤ 57 := by omega
          obtain rfl : k = n := Lead.uniq ⟨hk, hj, hno⟩ hl
          exact absurd hlt (by omega)
        · skip
          obtain rfl : k = n := Lead.uniq ⟨hk, hj, hno⟩ hl
          exact absurd hlt (by omega)
    · have hki : ¬ ((k : Int) < (t.size : Int)) := by omega
      have hno : k < t.size → ¬ dval (byt t k) < 10 := fun c => absurd c hlt
      obtain rfl : k = n := Lead.uniq ⟨hk, hj, hno⟩ hl
      clear hn
      clear hj hno
      go_wp2_with fail
      refine (RPo.out _).mono ?_
      rintro e w1 ⟨a1, rfl, g1s, b1⟩
      have bb := ba
      replace bb := bb.trans (b1.mono bb.size)
      replace qR := qR.later b1
      clear b1 RPo
      have nd := single_new w1 1 58 1 (by omega) rfl
      have b2 := nd.below
      replace bb := bb.trans (b2.mono bb.size)
      replace qR := qR.later b2
      replace g1s := segL b2 g1s
      clear b2
      have HN := hide' (vqNorm_is true a1 (ln X) (ln X) X (some ⟨w1.heap.size, 0, none⟩) 1 1 1 V Z _ (by omega) g1s (by omega) nd.seg HL.out)
      go_wp2_with fail
      refine HN.out.mono ?_
      clear HN
      rintro e w3 ⟨p3, q3, rfl, n3, n4⟩
      have b3 := n3.below
      replace bb := bb.trans (b3.mono bb.size)
      replace qR := qR.later b3
      clear b3
      have v0 := qR.cell 0
      have v1 := qR.cell 1
      have v2 := qR.cell 2
      simp only [List.getElem?_toArray, List.getElem?_cons_zero, List.getElem?_cons_succ] at v0 v1 v2
      have fz := fun o => qR.frozen o
      go_wp2
      obtain ⟨c9, q9⟩ := qR.set3 (.bool (ng Z)) (.slice p3 (ln (am Z)) (ln (am Z))) (.slice q3 (ln V) (ln V))
      have hno := qR.no (by simp)
      have z0 := q9.cell 0
      have z1 := q9.cell 1
      have z2 := q9.cell 2
      simp only [List.getElem?_toArray, List.getElem?_cons_zero, List.getElem?_cons_succ] at z0 z1 z2
      clear v0 v1 v2
      have b9 := bb.trans (c9.below (Nat.le_refl _))
      refine bodyPost_ret (v := .tuple #[.agg #[.bool (ng Z), .slice p3 (ln (am Z)) (ln (am Z)), .slice q3 (ln V) (ln V)], .int .i64 0]) (by rw [results_ct rfl]; go_simp) rfl ?_
      exact ⟨p3, q3, rfl, b9, n3.seg.ch c9 hno, n4.seg.ch c9 hno⟩

set_option maxHeartbeats 4000000 in
set_option maxRecDepth 100000 in
theorem vqParse_over_pl (s t : ByteArray) (n X Y : Nat) (V : Nat) (Z : Int) (hs : s.size ≤ 140737488351232) (h0 : 0 < s.size) (hm : byt s 0 ≠ 45) (hst : s = t) (hl : Lead t n) (ha : isT 10 (t.extract 0 n)) (hX : val 10 (t.extract 0 n) = X) (hn : n < t.size) (h47 : byt t n = 47) (hd : isT 10 (t.extract (n + 1) t.size)) (hY : val 10 (t.extract (n + 1) t.size) = Y) (hY0 : Y ≠ 0) (hL : Low (sg false X) ((Y : Nat) : Int) Z V) (w : World) : Calls Tryz.prog 12 #[.string s] w fun e w' => ∃ p q, e = .returned (.tuple #[.agg #[.bool (ng Z), .slice p (ln (am Z)) (ln (am Z)), .slice q (ln V) (ln V)], .int .i64 0]) ∧ Below w.heap.size w w' ∧ Seg w' p (am Z) (ln (am Z)) ∧ Seg w' q V (ln V) := by
  have h0i : (0 : Int) < (s.size : Int) := by omega
  have eb := byt_of h0
  have hx : (((s[0]'h0).toNat : Int) == 45) = false := by
    rw [← eb, beq_eq_false_iff_ne]; omega
  have ht : t.size ≤ s.size := by subst hst; first | exact Nat.le_refl _ | (simp only [ByteArray.size_extract]; omega)
  have ez : (t.extract 0 n).size ≤ t.size := by simp only [ByteArray.size_extract]; omega
  have RPo := hide' (fun w' => rParse_ok (t.extract 0 n) X (by omega) ha hX w')
  have lX : ln X ≤ 35184372088000 := by rw [← hX]; have := val_ln ha.2.2; omega
  have ba := below_alloc (w := w) (.cells #[.bool false, .slice none 0 0, .slice none 0 0] 27)
  have qR := Blk.new w #[.bool false, .slice none 0 0, .slice none 0 0] 27
  obtain ⟨u, hu⟩ : ∃ u, t.extract n t.size = u := ⟨_, rfl⟩
  have hus : u.size = t.size - n := by rw [← hu]; simp only [ByteArray.size_extract]; omega
  have hsl : ∀ wx : World, (Instr.slice 9 (.string t) (some (.int .i64 (n : Nat))) none none).run Tryz.prog wx = .ok (.string u) wx := fun wx => by
    have h := run_slice_string_l (P := Tryz.prog) (t := 9) (s := t) (w := wx) Tryz.underlying9 .i64 (n : Nat) (by omega) (by have := hl.le; omega)
    rw [Int.toNat_natCast, hu] at h
    exact h
  have h0u : 0 < u.size := by omega
  have h0ui : (0 : Int) < (u.size : Int) := by omega
  have hz : ((u.size : Int) == 0) = false := by rw [beq_eq_false_iff_ne]; omega
  have eu : (u[0]'h0u).toNat = byt t n := by
    rw [← byt_of h0u, ← hu, byt_extract (Nat.le_refl _) (by omega), Nat.add_zero]
  have x47 : (((u[0]'h0u).toNat : Int) == 47) = true := by rw [eu, beq_iff_eq]; omega
  obtain ⟨v, hv⟩ : ∃ v, u.extract 1 u.size = v := ⟨_, rfl⟩
  have hvt : t.extract (n + 1) t.size = v := by rw [← hv]; exact (ext_ext (by omega) hu).symm
  have hsl2 : ∀ wx : World, (Instr.slice 9 (.string u) (some (.int .i64 1)) none none).run Tryz.prog wx = .ok (.string v) wx := fun wx => by
    have h := run_slice_string_l (P := Tryz.prog) (t := 9) (s := u) (w := wx) Tryz.underlying9 .i64 1 (by omega) (by omega)
    rw [show (1 : Int).toNat = 1 from rfl, hv] at h
    exact h
  have hvs : v.size ≤ t.size := by rw [← hvt]; simp only [ByteArray.size_extract]; omega
  rw [hvt] at hd
  rw [hvt] at hY
  have RP2 := hide' (fun w' => rParse_ok v Y (by omega) hd hY w')
  have lY : ln Y ≤ 35184372088000 := by rw [← hY]; have := val_ln hd.2.2; omega
  have hzY : ((ln Y : Int) == 0) = false := by rw [beq_eq_false_iff_ne]; have := ln_pos hY0; omega
  clear hd hY
  clear hv hvt hvs
  clear eu
  clear hu hus ha hX
  have HL := hide' (show Low (rn false X Y) (rd Y : Nat) Z V by rw [rn_of (by omega), rd_of (by omega)]; exact hL)
  clear hL
  have hb25 : ∀ (wx : World) (a : Option Addr) (i j : Nat), (Instr.build 25 #[(0, .bool false), (1, .slice a i j)]).run Tryz.prog wx = .ok (.agg #[.bool false, .slice a i j]) wx := fun wx a i j => by go_simp
  have hb27 : ∀ (wx : World) (a b : Option Addr) (i j k l : Nat), (Instr.build 27 #[(0, .agg #[.bool false, .slice a i j]), (1, .slice b k l)]).run Tryz.prog wx = .ok (.agg #[.bool false, .slice a i j, .slice b k l]) wx := fun wx a b i j k l => by go_simp
  subst hst
  go_enter Tryz.func12, Tryz.ntmps12
  go_wp2_with fail
  generalize w.alloc (.cells #[.bool false, .slice none 0 0, .slice none 0 0] 27) = W at ba qR ⊢
  go_loopw [5] (fun i wr => ∃ k : Nat, k ≤ s.size ∧ i = .int .i64 k ∧ wr = W ∧ ∀ j, j < k → dval (byt s j) < 10) (fun i _ => s.size - (intOf i).toNat)
  case atStart => exact ⟨0, Nat.zero_le _, rfl, rfl, fun j hj => by omega⟩
  case round =>
    obtain ⟨k, hk, rfl, rfl, hj⟩ := hrel
    by_cases hlt : k < s.size
    · have hki : ((k : Int) < (s.size : Int)) := by omega
      have ek := byt_of hlt
      by_cases hv : dval (byt s k) < 10
      · have hv' := dval10.1 hv
        rw [ek] at hv'
        have g1 : (48 : Int) ≤ ((s[k]'hlt).toNat : Int) := by omega
        have g2 : ((s[k]'hlt).toNat : Int) ≤ 57 := by omega
        go_wp2
        go_roundw
        case rel => exact ⟨k + 1, by omega, by go_num, by trivial, fun j hj' => by
          by_cases e : j = k
          · rw [e]; exact hv
          · exact hj j (by omega)⟩
        case measure => simp [intOf]; omega
      · have hv' : ¬ (48 ≤ byt s k ∧ byt s k ≤ 57) := fun c => hv (dval10.2 c)
        rw [ek] at hv'
        have hno : k < s.size → ¬ dval (byt s k) < 10 := fun _ => hv
        by_cases g1 : (48 : Int) ≤ ((s[k]'hlt).toNat : Int)
        · have g2 : ¬ ((s[k]'hlt).toNat : Int) ≤ 57 := by omega
          obtain rfl : k = n := Lead.uniq ⟨hk, hj, hno⟩ hl
          exact absurd g1 (by rw [← ek]; omega)
        · skip
          obtain rfl : k = n := Lead.uniq ⟨hk, hj, hno⟩ hl
          clear hj hno
          go_wp2_with fail
          refine (RPo.out _).mono ?_
          rintro e w1 ⟨a1, rfl, g1s, b1⟩
          have bb := ba
          replace bb := bb.trans (b1.mono bb.size)
          replace qR := qR.later b1
          clear b1 RPo
          go_wp2_with fail
          refine (RP2.out _).mono ?_
          rintro e w2 ⟨a2, rfl, g2s, b2⟩
          replace bb := bb.trans (b2.mono bb.size)
          replace qR := qR.later b2
          replace g1s := segL b2 g1s
          clear b2 RP2
          have HN := hide' (vqNorm_is false a1 (ln X) (ln X) X a2 (ln Y) (ln Y) Y V Z _ (by omega) g1s (by omega) g2s HL.out)
          go_wp2_with fail
          refine HN.out.mono ?_
          clear HN
          rintro e w3 ⟨p3, q3, rfl, n3, n4⟩
          have b3 := n3.below
          replace bb := bb.trans (b3.mono bb.size)
          replace qR := qR.later b3
          clear b3
          have v0 := qR.cell 0
          have v1 := qR.cell 1
          have v2 := qR.cell 2
          simp only [List.getElem?_toArray, List.getElem?_cons_zero, List.getElem?_cons_succ] at v0 v1 v2
          have fz := fun o => qR.frozen o
          go_wp2
          obtain ⟨c9, q9⟩ := qR.set3 (.bool (ng Z)) (.slice p3 (ln (am Z)) (ln (am Z))) (.slice q3 (ln V) (ln V))
          have hno := qR.no (by simp)
          have z0 := q9.cell 0
          have z1 := q9.cell 1
          have z2 := q9.cell 2
          simp only [List.getElem?_toArray, List.getElem?_cons_zero, List.getElem?_cons_succ] at z0 z1 z2
          clear v0 v1 v2
          have b9 := bb.trans (c9.below (Nat.le_refl _))
          refine bodyPost_ret (v := .tuple #[.agg #[.bool (ng Z), .slice p3 (ln (am Z)) (ln (am Z)), .slice q3 (ln V) (ln V)], .int .i64 0]) (by rw [results_ct rfl]; go_simp) rfl ?_
          exact ⟨p3, q3, rfl, b9, n3.seg.ch c9 hno, n4.seg.ch c9 hno⟩
    · have hki : ¬ ((k : Int) < (s.size : Int)) := by omega
      have hno : k < s.size → ¬ dval (byt s k) < 10 := fun c => absurd c hlt
      obtain rfl : k = n := Lead.uniq ⟨hk, hj, hno⟩ hl
      exact absurd hn hlt

set_option maxHeartbeats 4000000 in
set_option maxRecDepth 100000 in
theorem vqParse_over_ng (s t : ByteArray) (n X Y : Nat) (V : Nat) (Z : Int) (hs : s.size ≤ 140737488351232) (h0 : 0 < s.size) (hm : byt s 0 = 45) (hst : s.extract 1 s.size = t) (hl : Lead t n) (ha : isT 10 (t.extract 0 n)) (hX : val 10 (t.extract 0 n) = X) (hn : n < t.size) (h47 : byt t n = 47) (hd : isT 10 (t.extract (n + 1) t.size)) (hY : val 10 (t.extract (n + 1) t.size) = Y) (hY0 : Y ≠ 0) (hL : Low (sg true X) ((Y : Nat) : Int) Z V) (w : World) : Calls Tryz.prog 12 #[.string s] w fun e w' => ∃ p q, e = .returned (.tuple #[.agg #[.bool (ng Z), .slice p (ln (am Z)) (ln (am Z)), .slice q (ln V) (ln V)], .int .i64 0]) ∧ Below w.heap.size w w' ∧ Seg w' p (am Z) (ln (am Z)) ∧ Seg w' q V (ln V) := by
  have h0i : (0 : Int) < (s.size : Int) := by omega
  have eb := byt_of h0
  have hx : (((s[0]'h0).toNat : Int) == 45) = true := by
    rw [← eb, beq_iff_eq]; omega
  have h1i : (1 : Int) ≤ (s.size : Int) := by omega
  have h1n : 1 ≤ s.size := by omega
  have ht : t.size ≤ s.size := by subst hst; first | exact Nat.le_refl _ | (simp only [ByteArray.size_extract]; omega)
  have ez : (t.extract 0 n).size ≤ t.size := by simp only [ByteArray.size_extract]; omega
  have RPo := hide' (fun w' => rParse_ok (t.extract 0 n) X (by omega) ha hX w')
  have lX : ln X ≤ 35184372088000 := by rw [← hX]; have := val_ln ha.2.2; omega
  have ba := below_alloc (w := w) (.cells #[.bool false, .slice none 0 0, .slice none 0 0] 27)
  have qR := Blk.new w #[.bool false, .slice none 0 0, .slice none 0 0] 27
  obtain ⟨u, hu⟩ : ∃ u, t.extract n t.size = u := ⟨_, rfl⟩
  have hus : u.size = t.size - n := by rw [← hu]; simp only [ByteArray.size_extract]; omega
  have hsl : ∀ wx : World, (Instr.slice 9 (.string t) (some (.int .i64 (n : Nat))) none none).run Tryz.prog wx = .ok (.string u) wx := fun wx => by
    have h := run_slice_string_l (P := Tryz.prog) (t := 9) (s := t) (w := wx) Tryz.underlying9 .i64 (n : Nat) (by omega) (by have := hl.le; omega)
    rw [Int.toNat_natCast, hu] at h
    exact h
  have h0u : 0 < u.size := by omega
  have h0ui : (0 : Int) < (u.size : Int) := by omega
  have hz : ((u.size : Int) == 0) = false := by rw [beq_eq_false_iff_ne]; omega
  have eu : (u[0]'h0u).toNat = byt t n := by
    rw [← byt_of h0u, ← hu, byt_extract (Nat.le_refl _) (by omega), Nat.add_zero]
  have x47 : (((u[0]'h0u).toNat : Int) == 47) = true := by rw [eu, beq_iff_eq]; omega
  obtain ⟨v, hv⟩ : ∃ v, u.extract 1 u.size = v := ⟨_, rfl⟩
  have hvt : t.extract (n + 1) t.size = v := by rw [← hv]; exact (ext_ext (by omega) hu).symm
  have hsl2 : ∀ wx : World, (Instr.slice 9 (.string u) (some (.int .i64 1)) none none).run Tryz.prog wx = .ok (.string v) wx := fun wx => by
    have h := run_slice_string_l (P := Tryz.prog) (t := 9) (s := u) (w := wx) Tryz.underlying9 .i64 1 (by omega) (by omega)
    rw [show (1 : Int).toNat = 1 from rfl, hv] at h
    exact h
  have hvs : v.size ≤ t.size := by rw [← hvt]; simp only [ByteArray.size_extract]; omega
  rw [hvt] at hd
  rw [hvt] at hY
  have RP2 := hide' (fun w' => rParse_ok v Y (by omega) hd hY w')
  have lY : ln Y ≤ 35184372088000 := by rw [← hY]; have := val_ln hd.2.2; omega
  have hzY : ((ln Y : Int) == 0) = false := by rw [beq_eq_false_iff_ne]; have := ln_pos hY0; omega
  clear hd hY
  clear hv hvt hvs
  clear eu
  clear hu hus ha hX
  have HL := hide' (show Low (rn true X Y) (rd Y : Nat) Z V by rw [rn_of (by omega), rd_of (by omega)]; exact hL)
  clear hL
  have hb25 : ∀ (wx : World) (a : Option Addr) (i j : Nat), (Instr.build 25 #[(0, .bool true), (1, .slice a i j)]).run Tryz.prog wx = .ok (.agg #[.bool true, .slice a i j]) wx := fun wx a i j => by go_simp
  have hb27 : ∀ (wx : World) (a b : Option Addr) (i j k l : Nat), (Instr.build 27 #[(0, .agg #[.bool true, .slice a i j]), (1, .slice b k l)]).run Tryz.prog wx = .ok (.agg #[.bool true, .slice a i j, .slice b k l]) wx := fun wx a b i j k l => by go_simp
  go_enter Tryz.func12, Tryz.ntmps12
  go_wp2_with fail
  try rw [hst]
  generalize w.alloc (.cells #[.bool false, .slice none 0 0, .slice none 0 0] 27) = W at ba qR ⊢
  go_loopw [5] (fun i wr => ∃ k : Nat, k ≤ t.size ∧ i = .int .i64 k ∧ wr = W ∧ ∀ j, j < k → dval (byt t j) < 10) (fun i _ => t.size - (intOf i).toNat)
  case atStart => exact ⟨0, Nat.zero_le _, rfl, rfl, fun j hj => by omega⟩
  case round =>
    obtain ⟨k, hk, rfl, rfl, hj⟩ := hrel
    by_cases hlt : k < t.size
    · have hki : ((k : Int) < (t.size : Int)) := by omega
      have ek := byt_of hlt
      by_cases hv : dval (byt t k) < 10
      · have hv' := dval10.1 hv
        rw [ek] at hv'
        have g1 : (48 : Int) ≤ ((t[k]'hlt).toNat : Int) := by omega
        have g2 : ((t[k]'hlt).toNat : Int) ≤ 57 := by omega
        go_wp2
        go_roundw
        case rel => exact ⟨k + 1, by omega, by go_num, by trivial, fun j hj' => by
          by_cases e : j = k
          · rw [e]; exact hv
          · exact hj j (by omega)⟩
        case measure => simp [intOf]; omega
      · have hv' : ¬ (48 ≤ byt t k ∧ byt t k ≤ 57) := fun c => hv (dval10.2 c)
        rw [ek] at hv'
        have hno : k < t.size → ¬ dval (byt t k) < 10 := fun _ => hv
        by_cases g1 : (48 : Int) ≤ ((t[k]'hlt).toNat : Int)
        · have g2 : ¬ ((t[k]'hlt).toNat : Int) ≤ 57 := by omega
          obtain rfl : k = n := Lead.uniq ⟨hk, hj, hno⟩ hl
          exact absurd g1 (by rw [← ek]; omega)
        · skip
          obtain rfl : k = n := Lead.uniq ⟨hk, hj, hno⟩ hl
          clear hj hno
          go_wp2_with fail
          refine (RPo.out _).mono ?_
          rintro e w1 ⟨a1, rfl, g1s, b1⟩
          have bb := ba
          replace bb := bb.trans (b1.mono bb.size)
          replace qR := qR.later b1
          clear b1 RPo
          go_wp2_with fail
          refine (RP2.out _).mono ?_
          rintro e w2 ⟨a2, rfl, g2s, b2⟩
          replace bb := bb.trans (b2.mono bb.size)
          replace qR := qR.later b2
          replace g1s := segL b2 g1s
          clear b2 RP2
          have HN := hide' (vqNorm_is true a1 (ln X) (ln X) X a2 (ln Y) (ln Y) Y V Z _ (by omega) g1s (by omega) g2s HL.out)
          go_wp2_with fail
          refine HN.out.mono ?_
          clear HN
          rintro e w3 ⟨p3, q3, rfl, n3, n4⟩
          have b3 := n3.below
          replace bb := bb.trans (b3.mono bb.size)
          replace qR := qR.later b3
          clear b3
          have v0 := qR.cell 0
          have v1 := qR.cell 1
          have v2 := qR.cell 2
          simp only [List.getElem?_toArray, List.getElem?_cons_zero, List.getElem?_cons_succ] at v0 v1 v2
          have fz := fun o => qR.frozen o
          go_wp2
          obtain ⟨c9, q9⟩ := qR.set3 (.bool (ng Z)) (.slice p3 (ln (am Z)) (ln (am Z))) (.slice q3 (ln V) (ln V))
          have hno := qR.no (by simp)
          have z0 := q9.cell 0
          have z1 := q9.cell 1
          have z2 := q9.cell 2
          simp only [List.getElem?_toArray, List.getElem?_cons_zero, List.getElem?_cons_succ] at z0 z1 z2
          clear v0 v1 v2
          have b9 := bb.trans (c9.below (Nat.le_refl _))
          refine bodyPost_ret (v := .tuple #[.agg #[.bool (ng Z), .slice p3 (ln (am Z)) (ln (am Z)), .slice q3 (ln V) (ln V)], .int .i64 0]) (by rw [results_ct rfl]; go_simp) rfl ?_
          exact ⟨p3, q3, rfl, b9, n3.seg.ch c9 hno, n4.seg.ch c9 hno⟩
    · have hki : ¬ ((k : Int) < (t.size : Int)) := by omega
      have hno : k < t.size → ¬ dval (byt t k) < 10 := fun c => absurd c hlt
      obtain rfl : k = n := Lead.uniq ⟨hk, hj, hno⟩ hl
      exact absurd hn hlt

set_option maxHeartbeats 4000000 in
set_option maxRecDepth 100000 in
theorem vqParse_overBad_pl (s t : ByteArray) (n X : Nat) (hs : s.size ≤ 140737488351232) (h0 : 0 < s.size) (hm : byt s 0 ≠ 45) (hst : s = t) (hl : Lead t n) (ha : isT 10 (t.extract 0 n)) (hX : val 10 (t.extract 0 n) = X) (hn : n < t.size) (h47 : byt t n = 47) (hd : ¬ isT 10 (t.extract (n + 1) t.size)) (w : World) : Calls Tryz.prog 12 #[.string s] w fun e w' => e = .returned (.tuple #[.agg #[.bool false, .slice none 0 0, .slice none 0 0], .int .i64 31]) ∧ Below w.heap.size w w' := by
  have h0i : (0 : Int) < (s.size : Int) := by omega
  have eb := byt_of h0
  have hx : (((s[0]'h0).toNat : Int) == 45) = false := by
    rw [← eb, beq_eq_false_iff_ne]; omega
  have ht : t.size ≤ s.size := by subst hst; first | exact Nat.le_refl _ | (simp only [ByteArray.size_extract]; omega)
  have ez : (t.extract 0 n).size ≤ t.size := by simp only [ByteArray.size_extract]; omega
  have RPo := hide' (fun w' => rParse_ok (t.extract 0 n) X (by omega) ha hX w')
  have lX : ln X ≤ 35184372088000 := by rw [← hX]; have := val_ln ha.2.2; omega
  have ba := below_alloc (w := w) (.cells #[.bool false, .slice none 0 0, .slice none 0 0] 27)
  have qR := Blk.new w #[.bool false, .slice none 0 0, .slice none 0 0] 27
  obtain ⟨u, hu⟩ : ∃ u, t.extract n t.size = u := ⟨_, rfl⟩
  have hus : u.size = t.size - n := by rw [← hu]; simp only [ByteArray.size_extract]; omega
  have hsl : ∀ wx : World, (Instr.slice 9 (.string t) (some (.int .i64 (n : Nat))) none none).run Tryz.prog wx = .ok (.string u) wx := fun wx => by
    have h := run_slice_string_l (P := Tryz.prog) (t := 9) (s := t) (w := wx) Tryz.underlying9 .i64 (n : Nat) (by omega) (by have := hl.le; omega)
    rw [Int.toNat_natCast, hu] at h
    exact h
  have h0u : 0 < u.size := by omega
  have h0ui : (0 : Int) < (u.size : Int) := by omega
  have hz : ((u.size : Int) == 0) = false := by rw [beq_eq_false_iff_ne]; omega
  have eu : (u[0]'h0u).toNat = byt t n := by
    rw [← byt_of h0u, ← hu, byt_extract (Nat.le_refl _) (by omega), Nat.add_zero]
  have x47 : (((u[0]'h0u).toNat : Int) == 47) = true := by rw [eu, beq_iff_eq]; omega
  obtain ⟨v, hv⟩ : ∃ v, u.extract 1 u.size = v := ⟨_, rfl⟩
  have hvt : t.extract (n + 1) t.size = v := by rw [← hv]; exact (ext_ext (by omega) hu).symm
  have hsl2 : ∀ wx : World, (Instr.slice 9 (.string u) (some (.int .i64 1)) none none).run Tryz.prog wx = .ok (.string v) wx := fun wx => by
    have h := run_slice_string_l (P := Tryz.prog) (t := 9) (s := u) (w := wx) Tryz.underlying9 .i64 1 (by omega) (by omega)
    rw [show (1 : Int).toNat = 1 from rfl, hv] at h
    exact h
  have hvs : v.size ≤ t.size := by rw [← hvt]; simp only [ByteArray.size_extract]; omega
  rw [hvt] at hd
  have RP2 := hide' (fun w' => rParse_no v (by omega) hd w')
  clear hd
  clear hv hvt hvs
  clear eu
  clear hu hus ha hX
  subst hst
  go_enter Tryz.func12, Tryz.ntmps12
  go_wp2_with fail
  generalize w.alloc (.cells #[.bool false, .slice none 0 0, .slice none 0 0] 27) = W at ba qR ⊢
  go_loopw [5] (fun i wr => ∃ k : Nat, k ≤ s.size ∧ i = .int .i64 k ∧ wr = W ∧ ∀ j, j < k → dval (byt s j) < 10) (fun i _ => s.size - (intOf i).toNat)
  case atStart => exact ⟨0, Nat.zero_le _, rfl, rfl, fun j hj => by omega⟩
  case round =>
    obtain ⟨k, hk, rfl, rfl, hj⟩ := hrel
    by_cases hlt : k < s.size
    · have hki : ((k : Int) < (s.size : Int)) := by omega
      have ek := byt_of hlt
      by_cases hv : dval (byt s k) < 10
      · have hv' := dval10.1 hv
        rw [ek] at hv'
        have g1 : (48 : Int) ≤ ((s[k]'hlt).toNat : Int) := by omega
        have g2 : ((s[k]'hlt).toNat : Int) ≤ 57 := by omega
        go_wp2
        go_roundw
        case rel => exact ⟨k + 1, by omega, by go_num, by trivial, fun j hj' => by
          by_cases e : j = k
          · rw [e]; exact hv
          · exact hj j (by omega)⟩
        case measure => simp [intOf]; omega
      · have hv' : ¬ (48 ≤ byt s k ∧ byt s k ≤ 57) := fun c => hv (dval10.2 c)
        rw [ek] at hv'
        have hno : k < s.size → ¬ dval (byt s k) < 10 := fun _ => hv
        by_cases g1 : (48 : Int) ≤ ((s[k]'hlt).toNat : Int)
        · have g2 : ¬ ((s[k]'hlt).toNat : Int) ≤ 57 := by omega
          obtain rfl : k = n := Lead.uniq ⟨hk, hj, hno⟩ hl
          exact absurd g1 (by rw [← ek]; omega)
        · skip
          obtain rfl : k = n := Lead.uniq ⟨hk, hj, hno⟩ hl
          clear hj hno
          go_wp2_with fail
          refine (RPo.out _).mono ?_
          rintro e w1 ⟨a1, rfl, g1s, b1⟩
          have bb := ba
          replace bb := bb.trans (b1.mono bb.size)
          replace qR := qR.later b1
          clear b1 RPo
          go_wp2_with fail
          refine (RP2.out _).mono ?_
          rintro e w2 ⟨rfl, b2⟩
          replace bb := bb.trans (b2.mono bb.size)
          replace qR := qR.later b2
          replace g1s := segL b2 g1s
          clear b2 RP2
          have v0 := qR.cell 0
          have v1 := qR.cell 1
          have v2 := qR.cell 2
          simp only [List.getElem?_toArray, List.getElem?_cons_zero, List.getElem?_cons_succ] at v0 v1 v2
          have fz := fun o => qR.frozen o
          go_wp2
          obtain ⟨c9, q9⟩ := qR.set3 (.bool false) (.slice none 0 0) (.slice none 0 0)
          have z0 := q9.cell 0
          have z1 := q9.cell 1
          have z2 := q9.cell 2
          simp only [List.getElem?_toArray, List.getElem?_cons_zero, List.getElem?_cons_succ] at z0 z1 z2
          clear v0 v1 v2
          refine bodyPost_ret (v := .tuple #[.agg #[.bool false, .slice none 0 0, .slice none 0 0], .int .i64 31]) (by rw [results_ct rfl]; go_simp) rfl ?_
          exact ⟨rfl, bb.trans (c9.below (Nat.le_refl _))⟩
    · have hki : ¬ ((k : Int) < (s.size : Int)) := by omega
      have hno : k < s.size → ¬ dval (byt s k) < 10 := fun c => absurd c hlt
      obtain rfl : k = n := Lead.uniq ⟨hk, hj, hno⟩ hl
      exact absurd hn hlt

set_option maxHeartbeats 4000000 in
set_option maxRecDepth 100000 in
theorem vqParse_overBad_ng (s t : ByteArray) (n X : Nat) (hs : s.size ≤ 140737488351232) (h0 : 0 < s.size) (hm : byt s 0 = 45) (hst : s.extract 1 s.size = t) (hl : Lead t n) (ha : isT 10 (t.extract 0 n)) (hX : val 10 (t.extract 0 n) = X) (hn : n < t.size) (h47 : byt t n = 47) (hd : ¬ isT 10 (t.extract (n + 1) t.size)) (w : World) : Calls Tryz.prog 12 #[.string s] w fun e w' => e = .returned (.tuple #[.agg #[.bool false, .slice none 0 0, .slice none 0 0], .int .i64 31]) ∧ Below w.heap.size w w' := by
  have h0i : (0 : Int) < (s.size : Int) := by omega
  have eb := byt_of h0
  have hx : (((s[0]'h0).toNat : Int) == 45) = true := by
    rw [← eb, beq_iff_eq]; omega
  have h1i : (1 : Int) ≤ (s.size : Int) := by omega
  have h1n : 1 ≤ s.size := by omega
  have ht : t.size ≤ s.size := by subst hst; first | exact Nat.le_refl _ | (simp only [ByteArray.size_extract]; omega)
  have ez : (t.extract 0 n).size ≤ t.size := by simp only [ByteArray.size_extract]; omega
  have RPo := hide' (fun w' => rParse_ok (t.extract 0 n) X (by omega) ha hX w')
  have lX : ln X ≤ 35184372088000 := by rw [← hX]; have := val_ln ha.2.2; omega
  have ba := below_alloc (w := w) (.cells #[.bool false, .slice none 0 0, .slice none 0 0] 27)
  have qR := Blk.new w #[.bool false, .slice none 0 0, .slice none 0 0] 27
  obtain ⟨u, hu⟩ : ∃ u, t.extract n t.size = u := ⟨_, rfl⟩
  have hus : u.size = t.size - n := by rw [← hu]; simp only [ByteArray.size_extract]; omega
  have hsl : ∀ wx : World, (Instr.slice 9 (.string t) (some (.int .i64 (n : Nat))) none none).run Tryz.prog wx = .ok (.string u) wx := fun wx => by
    have h := run_slice_string_l (P := Tryz.prog) (t := 9) (s := t) (w := wx) Tryz.underlying9 .i64 (n : Nat) (by omega) (by have := hl.le; omega)
    rw [Int.toNat_natCast, hu] at h
    exact h
  have h0u : 0 < u.size := by omega
  have h0ui : (0 : Int) < (u.size : Int) := by omega
  have hz : ((u.size : Int) == 0) = false := by rw [beq_eq_false_iff_ne]; omega
  have eu : (u[0]'h0u).toNat = byt t n := by
    rw [← byt_of h0u, ← hu, byt_extract (Nat.le_refl _) (by omega), Nat.add_zero]
  have x47 : (((u[0]'h0u).toNat : Int) == 47) = true := by rw [eu, beq_iff_eq]; omega
  obtain ⟨v, hv⟩ : ∃ v, u.extract 1 u.size = v := ⟨_, rfl⟩
  have hvt : t.extract (n + 1) t.size = v := by rw [← hv]; exact (ext_ext (by omega) hu).symm
  have hsl2 : ∀ wx : World, (Instr.slice 9 (.string u) (some (.int .i64 1)) none none).run Tryz.prog wx = .ok (.string v) wx := fun wx => by
    have h := run_slice_string_l (P := Tryz.prog) (t := 9) (s := u) (w := wx) Tryz.underlying9 .i64 1 (by omega) (by omega)
    rw [show (1 : Int).toNat = 1 from rfl, hv] at h
    exact h
  have hvs : v.size ≤ t.size := by rw [← hvt]; simp only [ByteArray.size_extract]; omega
  rw [hvt] at hd
  have RP2 := hide' (fun w' => rParse_no v (by omega) hd w')
  clear hd
  clear hv hvt hvs
  clear eu
  clear hu hus ha hX
  go_enter Tryz.func12, Tryz.ntmps12
  go_wp2_with fail
  try rw [hst]
  generalize w.alloc (.cells #[.bool false, .slice none 0 0, .slice none 0 0] 27) = W at ba qR ⊢
  go_loopw [5] (fun i wr => ∃ k : Nat, k ≤ t.size ∧ i = .int .i64 k ∧ wr = W ∧ ∀ j, j < k → dval (byt t j) < 10) (fun i _ => t.size - (intOf i).toNat)
  case atStart => exact ⟨0, Nat.zero_le _, rfl, rfl, fun j hj => by omega⟩
  case round =>
    obtain ⟨k, hk, rfl, rfl, hj⟩ := hrel
    by_cases hlt : k < t.size
    · have hki : ((k : Int) < (t.size : Int)) := by omega
      have ek := byt_of hlt
      by_cases hv : dval (byt t k) < 10
      · have hv' := dval10.1 hv
        rw [ek] at hv'
        have g1 : (48 : Int) ≤ ((t[k]'hlt).toNat : Int) := by omega
        have g2 : ((t[k]'hlt).toNat : Int) ≤ 57 := by omega
        go_wp2
        go_roundw
        case rel => exact ⟨k + 1, by omega, by go_num, by trivial, fun j hj' => by
          by_cases e : j = k
          · rw [e]; exact hv
          · exact hj j (by omega)⟩
        case measure => simp [intOf]; omega
      · have hv' : ¬ (48 ≤ byt t k ∧ byt t k ≤ 57) := fun c => hv (dval10.2 c)
        rw [ek] at hv'
        have hno : k < t.size → ¬ dval (byt t k) < 10 := fun _ => hv
        by_cases g1 : (48 : Int) ≤ ((t[k]'hlt).toNat : Int)
        · have g2 : ¬ ((t[k]'hlt).toNat : Int) ≤ 57 := by omega
          obtain rfl : k = n := Lead.uniq ⟨hk, hj, hno⟩ hl
          exact absurd g1 (by rw [← ek]; omega)
        · skip
          obtain rfl : k = n := Lead.uniq ⟨hk, hj, hno⟩ hl
          clear hj hno
          go_wp2_with fail
          refine (RPo.out _).mono ?_
          rintro e w1 ⟨a1, rfl, g1s, b1⟩
          have bb := ba
          replace bb := bb.trans (b1.mono bb.size)
          replace qR := qR.later b1
          clear b1 RPo
          go_wp2_with fail
          refine (RP2.out _).mono ?_
          rintro e w2 ⟨rfl, b2⟩
          replace bb := bb.trans (b2.mono bb.size)
          replace qR := qR.later b2
          replace g1s := segL b2 g1s
          clear b2 RP2
          have v0 := qR.cell 0
          have v1 := qR.cell 1
          have v2 := qR.cell 2
          simp only [List.getElem?_toArray, List.getElem?_cons_zero, List.getElem?_cons_succ] at v0 v1 v2
          have fz := fun o => qR.frozen o
          go_wp2
          obtain ⟨c9, q9⟩ := qR.set3 (.bool false) (.slice none 0 0) (.slice none 0 0)
          have z0 := q9.cell 0
          have z1 := q9.cell 1
          have z2 := q9.cell 2
          simp only [List.getElem?_toArray, List.getElem?_cons_zero, List.getElem?_cons_succ] at z0 z1 z2
          clear v0 v1 v2
          refine bodyPost_ret (v := .tuple #[.agg #[.bool false, .slice none 0 0, .slice none 0 0], .int .i64 31]) (by rw [results_ct rfl]; go_simp) rfl ?_
          exact ⟨rfl, bb.trans (c9.below (Nat.le_refl _))⟩
    · have hki : ¬ ((k : Int) < (t.size : Int)) := by omega
      have hno : k < t.size → ¬ dval (byt t k) < 10 := fun c => absurd c hlt
      obtain rfl : k = n := Lead.uniq ⟨hk, hj, hno⟩ hl
      exact absurd hn hlt

set_option maxHeartbeats 4000000 in
set_option maxRecDepth 100000 in
theorem vqParse_overZero_pl (s t : ByteArray) (n X : Nat) (hs : s.size ≤ 140737488351232) (h0 : 0 < s.size) (hm : byt s 0 ≠ 45) (hst : s = t) (hl : Lead t n) (ha : isT 10 (t.extract 0 n)) (hX : val 10 (t.extract 0 n) = X) (hn : n < t.size) (h47 : byt t n = 47) (hd : isT 10 (t.extract (n + 1) t.size)) (hY : val 10 (t.extract (n + 1) t.size) = 0) (w : World) : Calls Tryz.prog 12 #[.string s] w fun e w' => e = .returned (.tuple #[.agg #[.bool false, .slice none 0 0, .slice none 0 0], .int .i64 31]) ∧ Below w.heap.size w w' := by
  have h0i : (0 : Int) < (s.size : Int) := by omega
  have eb := byt_of h0
  have hx : (((s[0]'h0).toNat : Int) == 45) = false := by
    rw [← eb, beq_eq_false_iff_ne]; omega
  have ht : t.size ≤ s.size := by subst hst; first | exact Nat.le_refl _ | (simp only [ByteArray.size_extract]; omega)
  have ez : (t.extract 0 n).size ≤ t.size := by simp only [ByteArray.size_extract]; omega
  have RPo := hide' (fun w' => rParse_ok (t.extract 0 n) X (by omega) ha hX w')
  have lX : ln X ≤ 35184372088000 := by rw [← hX]; have := val_ln ha.2.2; omega
  have ba := below_alloc (w := w) (.cells #[.bool false, .slice none 0 0, .slice none 0 0] 27)
  have qR := Blk.new w #[.bool false, .slice none 0 0, .slice none 0 0] 27
  obtain ⟨u, hu⟩ : ∃ u, t.extract n t.size = u := ⟨_, rfl⟩
  have hus : u.size = t.size - n := by rw [← hu]; simp only [ByteArray.size_extract]; omega
  have hsl : ∀ wx : World, (Instr.slice 9 (.string t) (some (.int .i64 (n : Nat))) none none).run Tryz.prog wx = .ok (.string u) wx := fun wx => by
    have h := run_slice_string_l (P := Tryz.prog) (t := 9) (s := t) (w := wx) Tryz.underlying9 .i64 (n : Nat) (by omega) (by have := hl.le; omega)
    rw [Int.toNat_natCast, hu] at h
    exact h
  have h0u : 0 < u.size := by omega
  have h0ui : (0 : Int) < (u.size : Int) := by omega
  have hz : ((u.size : Int) == 0) = false := by rw [beq_eq_false_iff_ne]; omega
  have eu : (u[0]'h0u).toNat = byt t n := by
    rw [← byt_of h0u, ← hu, byt_extract (Nat.le_refl _) (by omega), Nat.add_zero]
  have x47 : (((u[0]'h0u).toNat : Int) == 47) = true := by rw [eu, beq_iff_eq]; omega
  obtain ⟨v, hv⟩ : ∃ v, u.extract 1 u.size = v := ⟨_, rfl⟩
  have hvt : t.extract (n + 1) t.size = v := by rw [← hv]; exact (ext_ext (by omega) hu).symm
  have hsl2 : ∀ wx : World, (Instr.slice 9 (.string u) (some (.int .i64 1)) none none).run Tryz.prog wx = .ok (.string v) wx := fun wx => by
    have h := run_slice_string_l (P := Tryz.prog) (t := 9) (s := u) (w := wx) Tryz.underlying9 .i64 1 (by omega) (by omega)
    rw [show (1 : Int).toNat = 1 from rfl, hv] at h
    exact h
  have hvs : v.size ≤ t.size := by rw [← hvt]; simp only [ByteArray.size_extract]; omega
  rw [hvt] at hd
  rw [hvt] at hY
  have RP2 := hide' (fun w' => rParse_ok v 0 (by omega) hd hY w')
  rw [ln_zero] at RP2
  clear hd hY
  clear hv hvt hvs
  clear eu
  clear hu hus ha hX
  subst hst
  go_enter Tryz.func12, Tryz.ntmps12
  go_wp2_with fail
  generalize w.alloc (.cells #[.bool false, .slice none 0 0, .slice none 0 0] 27) = W at ba qR ⊢
  go_loopw [5] (fun i wr => ∃ k : Nat, k ≤ s.size ∧ i = .int .i64 k ∧ wr = W ∧ ∀ j, j < k → dval (byt s j) < 10) (fun i _ => s.size - (intOf i).toNat)
  case atStart => exact ⟨0, Nat.zero_le _, rfl, rfl, fun j hj => by omega⟩
  case round =>
    obtain ⟨k, hk, rfl, rfl, hj⟩ := hrel
    by_cases hlt : k < s.size
    · have hki : ((k : Int) < (s.size : Int)) := by omega
      have ek := byt_of hlt
      by_cases hv : dval (byt s k) < 10
      · have hv' := dval10.1 hv
        rw [ek] at hv'
        have g1 : (48 : Int) ≤ ((s[k]'hlt).toNat : Int) := by omega
        have g2 : ((s[k]'hlt).toNat : Int) ≤ 57 := by omega
        go_wp2
        go_roundw
        case rel => exact ⟨k + 1, by omega, by go_num, by trivial, fun j hj' => by
          by_cases e : j = k
          · rw [e]; exact hv
          · exact hj j (by omega)⟩
        case measure => simp [intOf]; omega
      · have hv' : ¬ (48 ≤ byt s k ∧ byt s k ≤ 57) := fun c => hv (dval10.2 c)
        rw [ek] at hv'
        have hno : k < s.size → ¬ dval (byt s k) < 10 := fun _ => hv
        by_cases g1 : (48 : Int) ≤ ((s[k]'hlt).toNat : Int)
        · have g2 : ¬ ((s[k]'hlt).toNat : Int) ≤ 57 := by omega
          obtain rfl : k = n := Lead.uniq ⟨hk, hj, hno⟩ hl
          exact absurd g1 (by rw [← ek]; omega)
        · skip
          obtain rfl : k = n := Lead.uniq ⟨hk, hj, hno⟩ hl
          clear hj hno
          go_wp2_with fail
          refine (RPo.out _).mono ?_
          rintro e w1 ⟨a1, rfl, g1s, b1⟩
          have bb := ba
          replace bb := bb.trans (b1.mono bb.size)
          replace qR := qR.later b1
          clear b1 RPo
          go_wp2_with fail
          refine (RP2.out _).mono ?_
          rintro e w2 ⟨a2, rfl, g2s, b2⟩
          replace bb := bb.trans (b2.mono bb.size)
          replace qR := qR.later b2
          replace g1s := segL b2 g1s
          clear b2 RP2
          have v0 := qR.cell 0
          have v1 := qR.cell 1
          have v2 := qR.cell 2
          simp only [List.getElem?_toArray, List.getElem?_cons_zero, List.getElem?_cons_succ] at v0 v1 v2
          have fz := fun o => qR.frozen o
          go_wp2
          obtain ⟨c9, q9⟩ := qR.set3 (.bool false) (.slice none 0 0) (.slice none 0 0)
          have z0 := q9.cell 0
          have z1 := q9.cell 1
          have z2 := q9.cell 2
          simp only [List.getElem?_toArray, List.getElem?_cons_zero, List.getElem?_cons_succ] at z0 z1 z2
          clear v0 v1 v2
          refine bodyPost_ret (v := .tuple #[.agg #[.bool false, .slice none 0 0, .slice none 0 0], .int .i64 31]) (by rw [results_ct rfl]; go_simp) rfl ?_
          exact ⟨rfl, bb.trans (c9.below (Nat.le_refl _))⟩
    · have hki : ¬ ((k : Int) < (s.size : Int)) := by omega
      have hno : k < s.size → ¬ dval (byt s k) < 10 := fun c => absurd c hlt
      obtain rfl : k = n := Lead.uniq ⟨hk, hj, hno⟩ hl
      exact absurd hn hlt

set_option maxHeartbeats 4000000 in
set_option maxRecDepth 100000 in
theorem vqParse_overZero_ng (s t : ByteArray) (n X : Nat) (hs : s.size ≤ 140737488351232) (h0 : 0 < s.size) (hm : byt s 0 = 45) (hst : s.extract 1 s.size = t) (hl : Lead t n) (ha : isT 10 (t.extract 0 n)) (hX : val 10 (t.extract 0 n) = X) (hn : n < t.size) (h47 : byt t n = 47) (hd : isT 10 (t.extract (n + 1) t.size)) (hY : val 10 (t.extract (n + 1) t.size) = 0) (w : World) : Calls Tryz.prog 12 #[.string s] w fun e w' => e = .returned (.tuple #[.agg #[.bool false, .slice none 0 0, .slice none 0 0], .int .i64 31]) ∧ Below w.heap.size w w' := by
  have h0i : (0 : Int) < (s.size : Int) := by omega
  have eb := byt_of h0
  have hx : (((s[0]'h0).toNat : Int) == 45) = true := by
    rw [← eb, beq_iff_eq]; omega
  have h1i : (1 : Int) ≤ (s.size : Int) := by omega
  have h1n : 1 ≤ s.size := by omega
  have ht : t.size ≤ s.size := by subst hst; first | exact Nat.le_refl _ | (simp only [ByteArray.size_extract]; omega)
  have ez : (t.extract 0 n).size ≤ t.size := by simp only [ByteArray.size_extract]; omega
  have RPo := hide' (fun w' => rParse_ok (t.extract 0 n) X (by omega) ha hX w')
  have lX : ln X ≤ 35184372088000 := by rw [← hX]; have := val_ln ha.2.2; omega
  have ba := below_alloc (w := w) (.cells #[.bool false, .slice none 0 0, .slice none 0 0] 27)
  have qR := Blk.new w #[.bool false, .slice none 0 0, .slice none 0 0] 27
  obtain ⟨u, hu⟩ : ∃ u, t.extract n t.size = u := ⟨_, rfl⟩
  have hus : u.size = t.size - n := by rw [← hu]; simp only [ByteArray.size_extract]; omega
  have hsl : ∀ wx : World, (Instr.slice 9 (.string t) (some (.int .i64 (n : Nat))) none none).run Tryz.prog wx = .ok (.string u) wx := fun wx => by
    have h := run_slice_string_l (P := Tryz.prog) (t := 9) (s := t) (w := wx) Tryz.underlying9 .i64 (n : Nat) (by omega) (by have := hl.le; omega)
    rw [Int.toNat_natCast, hu] at h
    exact h
  have h0u : 0 < u.size := by omega
  have h0ui : (0 : Int) < (u.size : Int) := by omega
  have hz : ((u.size : Int) == 0) = false := by rw [beq_eq_false_iff_ne]; omega
  have eu : (u[0]'h0u).toNat = byt t n := by
    rw [← byt_of h0u, ← hu, byt_extract (Nat.le_refl _) (by omega), Nat.add_zero]
  have x47 : (((u[0]'h0u).toNat : Int) == 47) = true := by rw [eu, beq_iff_eq]; omega
  obtain ⟨v, hv⟩ : ∃ v, u.extract 1 u.size = v := ⟨_, rfl⟩
  have hvt : t.extract (n + 1) t.size = v := by rw [← hv]; exact (ext_ext (by omega) hu).symm
  have hsl2 : ∀ wx : World, (Instr.slice 9 (.string u) (some (.int .i64 1)) none none).run Tryz.prog wx = .ok (.string v) wx := fun wx => by
    have h := run_slice_string_l (P := Tryz.prog) (t := 9) (s := u) (w := wx) Tryz.underlying9 .i64 1 (by omega) (by omega)
    rw [show (1 : Int).toNat = 1 from rfl, hv] at h
    exact h
  have hvs : v.size ≤ t.size := by rw [← hvt]; simp only [ByteArray.size_extract]; omega
  rw [hvt] at hd
  rw [hvt] at hY
  have RP2 := hide' (fun w' => rParse_ok v 0 (by omega) hd hY w')
  rw [ln_zero] at RP2
  clear hd hY
  clear hv hvt hvs
  clear eu
  clear hu hus ha hX
  go_enter Tryz.func12, Tryz.ntmps12
  go_wp2_with fail
  try rw [hst]
  generalize w.alloc (.cells #[.bool false, .slice none 0 0, .slice none 0 0] 27) = W at ba qR ⊢
  go_loopw [5] (fun i wr => ∃ k : Nat, k ≤ t.size ∧ i = .int .i64 k ∧ wr = W ∧ ∀ j, j < k → dval (byt t j) < 10) (fun i _ => t.size - (intOf i).toNat)
  case atStart => exact ⟨0, Nat.zero_le _, rfl, rfl, fun j hj => by omega⟩
  case round =>
    obtain ⟨k, hk, rfl, rfl, hj⟩ := hrel
    by_cases hlt : k < t.size
    · have hki : ((k : Int) < (t.size : Int)) := by omega
      have ek := byt_of hlt
      by_cases hv : dval (byt t k) < 10
      · have hv' := dval10.1 hv
        rw [ek] at hv'
        have g1 : (48 : Int) ≤ ((t[k]'hlt).toNat : Int) := by omega
        have g2 : ((t[k]'hlt).toNat : Int) ≤ 57 := by omega
        go_wp2
        go_roundw
        case rel => exact ⟨k + 1, by omega, by go_num, by trivial, fun j hj' => by
          by_cases e : j = k
          · rw [e]; exact hv
          · exact hj j (by omega)⟩
        case measure => simp [intOf]; omega
      · have hv' : ¬ (48 ≤ byt t k ∧ byt t k ≤ 57) := fun c => hv (dval10.2 c)
        rw [ek] at hv'
        have hno : k < t.size → ¬ dval (byt t k) < 10 := fun _ => hv
        by_cases g1 : (48 : Int) ≤ ((t[k]'hlt).toNat : Int)
        · have g2 : ¬ ((t[k]'hlt).toNat : Int) ≤ 57 := by omega
          obtain rfl : k = n := Lead.uniq ⟨hk, hj, hno⟩ hl
          exact absurd g1 (by rw [← ek]; omega)
        · skip
          obtain rfl : k = n := Lead.uniq ⟨hk, hj, hno⟩ hl
          clear hj hno
          go_wp2_with fail
          refine (RPo.out _).mono ?_
          rintro e w1 ⟨a1, rfl, g1s, b1⟩
          have bb := ba
          replace bb := bb.trans (b1.mono bb.size)
          replace qR := qR.later b1
          clear b1 RPo
          go_wp2_with fail
          refine (RP2.out _).mono ?_
          rintro e w2 ⟨a2, rfl, g2s, b2⟩
          replace bb := bb.trans (b2.mono bb.size)
          replace qR := qR.later b2
          replace g1s := segL b2 g1s
          clear b2 RP2
          have v0 := qR.cell 0
          have v1 := qR.cell 1
          have v2 := qR.cell 2
          simp only [List.getElem?_toArray, List.getElem?_cons_zero, List.getElem?_cons_succ] at v0 v1 v2
          have fz := fun o => qR.frozen o
          go_wp2
          obtain ⟨c9, q9⟩ := qR.set3 (.bool false) (.slice none 0 0) (.slice none 0 0)
          have z0 := q9.cell 0
          have z1 := q9.cell 1
          have z2 := q9.cell 2
          simp only [List.getElem?_toArray, List.getElem?_cons_zero, List.getElem?_cons_succ] at z0 z1 z2
          clear v0 v1 v2
          refine bodyPost_ret (v := .tuple #[.agg #[.bool false, .slice none 0 0, .slice none 0 0], .int .i64 31]) (by rw [results_ct rfl]; go_simp) rfl ?_
          exact ⟨rfl, bb.trans (c9.below (Nat.le_refl _))⟩
    · have hki : ¬ ((k : Int) < (t.size : Int)) := by omega
      have hno : k < t.size → ¬ dval (byt t k) < 10 := fun c => absurd c hlt
      obtain rfl : k = n := Lead.uniq ⟨hk, hj, hno⟩ hl
      exact absurd hn hlt

set_option maxHeartbeats 4000000 in
set_option maxRecDepth 100000 in
theorem vqParse_pointNone_pl (s t : ByteArray) (n X : Nat) (hs : s.size ≤ 140737488351232) (h0 : 0 < s.size) (hm : byt s 0 ≠ 45) (hst : s = t) (hl : Lead t n) (ha : isT 10 (t.extract 0 n)) (hX : val 10 (t.extract 0 n) = X) (hn : n + 1 = t.size) (h46 : byt t n = 46) (w : World) : Calls Tryz.prog 12 #[.string s] w fun e w' => e = .returned (.tuple #[.agg #[.bool false, .slice none 0 0, .slice none 0 0], .int .i64 31]) ∧ Below w.heap.size w w' := by
  have h0i : (0 : Int) < (s.size : Int) := by omega
  have eb := byt_of h0
  have hx : (((s[0]'h0).toNat : Int) == 45) = false := by
    rw [← eb, beq_eq_false_iff_ne]; omega
  have ht : t.size ≤ s.size := by subst hst; first | exact Nat.le_refl _ | (simp only [ByteArray.size_extract]; omega)
  have ez : (t.extract 0 n).size ≤ t.size := by simp only [ByteArray.size_extract]; omega
  have RPo := hide' (fun w' => rParse_ok (t.extract 0 n) X (by omega) ha hX w')
  have lX : ln X ≤ 35184372088000 := by rw [← hX]; have := val_ln ha.2.2; omega
  have ba := below_alloc (w := w) (.cells #[.bool false, .slice none 0 0, .slice none 0 0] 27)
  have qR := Blk.new w #[.bool false, .slice none 0 0, .slice none 0 0] 27
  replace hn : n + 1 = t.size ∧ n < t.size := ⟨hn, by omega⟩
  obtain ⟨hn1, hn⟩ := hn
  obtain ⟨u, hu⟩ : ∃ u, t.extract n t.size = u := ⟨_, rfl⟩
  have hus : u.size = t.size - n := by rw [← hu]; simp only [ByteArray.size_extract]; omega
  have hsl : ∀ wx : World, (Instr.slice 9 (.string t) (some (.int .i64 (n : Nat))) none none).run Tryz.prog wx = .ok (.string u) wx := fun wx => by
    have h := run_slice_string_l (P := Tryz.prog) (t := 9) (s := t) (w := wx) Tryz.underlying9 .i64 (n : Nat) (by omega) (by have := hl.le; omega)
    rw [Int.toNat_natCast, hu] at h
    exact h
  have h0u : 0 < u.size := by omega
  have h0ui : (0 : Int) < (u.size : Int) := by omega
  have hz : ((u.size : Int) == 0) = false := by rw [beq_eq_false_iff_ne]; omega
  have eu : (u[0]'h0u).toNat = byt t n := by
    rw [← byt_of h0u, ← hu, byt_extract (Nat.le_refl _) (by omega), Nat.add_zero]
  have x47 : (((u[0]'h0u).toNat : Int) == 47) = false := by rw [eu, beq_eq_false_iff_ne]; omega
  have x46 : ((u[0]'h0u).toNat : Int) = 46 := by rw [eu]; omega
  have y46 : (((u[0]'h0u).toNat : Int) != 46) = false := by rw [x46]; rfl
  have hz1 : ((u.size : Int) == 1) = true := by rw [beq_iff_eq]; omega
  clear hn1
  clear eu
  clear hu hus ha hX
  subst hst
  go_enter Tryz.func12, Tryz.ntmps12
  go_wp2_with fail
  generalize w.alloc (.cells #[.bool false, .slice none 0 0, .slice none 0 0] 27) = W at ba qR ⊢
  go_loopw [5] (fun i wr => ∃ k : Nat, k ≤ s.size ∧ i = .int .i64 k ∧ wr = W ∧ ∀ j, j < k → dval (byt s j) < 10) (fun i _ => s.size - (intOf i).toNat)
  case atStart => exact ⟨0, Nat.zero_le _, rfl, rfl, fun j hj => by omega⟩
  case round =>
    obtain ⟨k, hk, rfl, rfl, hj⟩ := hrel
    by_cases hlt : k < s.size
    · have hki : ((k : Int) < (s.size : Int)) := by omega
      have ek := byt_of hlt
      by_cases hv : dval (byt s k) < 10
      · have hv' := dval10.1 hv
        rw [ek] at hv'
        have g1 : (48 : Int) ≤ ((s[k]'hlt).toNat : Int) := by omega
        have g2 : ((s[k]'hlt).toNat : Int) ≤ 57 := by omega
        go_wp2
        go_roundw
        case rel => exact ⟨k + 1, by omega, by go_num, by trivial, fun j hj' => by
          by_cases e : j = k
          · rw [e]; exact hv
          · exact hj j (by omega)⟩
        case measure => simp [intOf]; omega
      · have hv' : ¬ (48 ≤ byt s k ∧ byt s k ≤ 57) := fun c => hv (dval10.2 c)
        rw [ek] at hv'
        have hno : k < s.size → ¬ dval (byt s k) < 10 := fun _ => hv
        by_cases g1 : (48 : Int) ≤ ((s[k]'hlt).toNat : Int)
        · have g2 : ¬ ((s[k]'hlt).toNat : Int) ≤ 57 := by omega
          obtain rfl : k = n := Lead.uniq ⟨hk, hj, hno⟩ hl
          exact absurd g1 (by rw [← ek]; omega)
        · skip
          obtain rfl : k = n := Lead.uniq ⟨hk, hj, hno⟩ hl
          clear hj hno
          go_wp2_with fail
          refine (RPo.out _).mono ?_
          rintro e w1 ⟨a1, rfl, g1s, b1⟩
          have bb := ba
          replace bb := bb.trans (b1.mono bb.size)
          replace qR := qR.later b1
          clear b1 RPo
          have v0 := qR.cell 0
          have v1 := qR.cell 1
          have v2 := qR.cell 2
          simp only [List.getElem?_toArray, List.getElem?_cons_zero, List.getElem?_cons_succ] at v0 v1 v2
          have fz := fun o => qR.frozen o
          go_wp2
          obtain ⟨c9, q9⟩ := qR.set3 (.bool false) (.slice none 0 0) (.slice none 0 0)
          have z0 := q9.cell 0
          have z1 := q9.cell 1
          have z2 := q9.cell 2
          simp only [List.getElem?_toArray, List.getElem?_cons_zero, List.getElem?_cons_succ] at z0 z1 z2
          clear v0 v1 v2
          refine bodyPost_ret (v := .tuple #[.agg #[.bool false, .slice none 0 0, .slice none 0 0], .int .i64 31]) (by rw [results_ct rfl]; go_simp) rfl ?_
          exact ⟨rfl, bb.trans (c9.below (Nat.le_refl _))⟩
    · have hki : ¬ ((k : Int) < (s.size : Int)) := by omega
      have hno : k < s.size → ¬ dval (byt s k) < 10 := fun c => absurd c hlt
      obtain rfl : k = n := Lead.uniq ⟨hk, hj, hno⟩ hl
      exact absurd hn hlt

set_option maxHeartbeats 4000000 in
set_option maxRecDepth 100000 in
theorem vqParse_pointNone_ng (s t : ByteArray) (n X : Nat) (hs : s.size ≤ 140737488351232) (h0 : 0 < s.size) (hm : byt s 0 = 45) (hst : s.extract 1 s.size = t) (hl : Lead t n) (ha : isT 10 (t.extract 0 n)) (hX : val 10 (t.extract 0 n) = X) (hn : n + 1 = t.size) (h46 : byt t n = 46) (w : World) : Calls Tryz.prog 12 #[.string s] w fun e w' => e = .returned (.tuple #[.agg #[.bool false, .slice none 0 0, .slice none 0 0], .int .i64 31]) ∧ Below w.heap.size w w' := by
  have h0i : (0 : Int) < (s.size : Int) := by omega
  have eb := byt_of h0
  have hx : (((s[0]'h0).toNat : Int) == 45) = true := by
    rw [← eb, beq_iff_eq]; omega
  have h1i : (1 : Int) ≤ (s.size : Int) := by omega
  have h1n : 1 ≤ s.size := by omega
  have ht : t.size ≤ s.size := by subst hst; first | exact Nat.le_refl _ | (simp only [ByteArray.size_extract]; omega)
  have ez : (t.extract 0 n).size ≤ t.size := by simp only [ByteArray.size_extract]; omega
  have RPo := hide' (fun w' => rParse_ok (t.extract 0 n) X (by omega) ha hX w')
  have lX : ln X ≤ 35184372088000 := by rw [← hX]; have := val_ln ha.2.2; omega
  have ba := below_alloc (w := w) (.cells #[.bool false, .slice none 0 0, .slice none 0 0] 27)
  have qR := Blk.new w #[.bool false, .slice none 0 0, .slice none 0 0] 27
  replace hn : n + 1 = t.size ∧ n < t.size := ⟨hn, by omega⟩
  obtain ⟨hn1, hn⟩ := hn
  obtain ⟨u, hu⟩ : ∃ u, t.extract n t.size = u := ⟨_, rfl⟩
  have hus : u.size = t.size - n := by rw [← hu]; simp only [ByteArray.size_extract]; omega
  have hsl : ∀ wx : World, (Instr.slice 9 (.string t) (some (.int .i64 (n : Nat))) none none).run Tryz.prog wx = .ok (.string u) wx := fun wx => by
    have h := run_slice_string_l (P := Tryz.prog) (t := 9) (s := t) (w := wx) Tryz.underlying9 .i64 (n : Nat) (by omega) (by have := hl.le; omega)
    rw [Int.toNat_natCast, hu] at h
    exact h
  have h0u : 0 < u.size := by omega
  have h0ui : (0 : Int) < (u.size : Int) := by omega
  have hz : ((u.size : Int) == 0) = false := by rw [beq_eq_false_iff_ne]; omega
  have eu : (u[0]'h0u).toNat = byt t n := by
    rw [← byt_of h0u, ← hu, byt_extract (Nat.le_refl _) (by omega), Nat.add_zero]
  have x47 : (((u[0]'h0u).toNat : Int) == 47) = false := by rw [eu, beq_eq_false_iff_ne]; omega
  have x46 : ((u[0]'h0u).toNat : Int) = 46 := by rw [eu]; omega
  have y46 : (((u[0]'h0u).toNat : Int) != 46) = false := by rw [x46]; rfl
  have hz1 : ((u.size : Int) == 1) = true := by rw [beq_iff_eq]; omega
  clear hn1
  clear eu
  clear hu hus ha hX
  go_enter Tryz.func12, Tryz.ntmps12
  go_wp2_with fail
  try rw [hst]
  generalize w.alloc (.cells #[.bool false, .slice none 0 0, .slice none 0 0] 27) = W at ba qR ⊢
  go_loopw [5] (fun i wr => ∃ k : Nat, k ≤ t.size ∧ i = .int .i64 k ∧ wr = W ∧ ∀ j, j < k → dval (byt t j) < 10) (fun i _ => t.size - (intOf i).toNat)
  case atStart => exact ⟨0, Nat.zero_le _, rfl, rfl, fun j hj => by omega⟩
  case round =>
    obtain ⟨k, hk, rfl, rfl, hj⟩ := hrel
    by_cases hlt : k < t.size
    · have hki : ((k : Int) < (t.size : Int)) := by omega
      have ek := byt_of hlt
      by_cases hv : dval (byt t k) < 10
      · have hv' := dval10.1 hv
        rw [ek] at hv'
        have g1 : (48 : Int) ≤ ((t[k]'hlt).toNat : Int) := by omega
        have g2 : ((t[k]'hlt).toNat : Int) ≤ 57 := by omega
        go_wp2
        go_roundw
        case rel => exact ⟨k + 1, by omega, by go_num, by trivial, fun j hj' => by
          by_cases e : j = k
          · rw [e]; exact hv
          · exact hj j (by omega)⟩
        case measure => simp [intOf]; omega
      · have hv' : ¬ (48 ≤ byt t k ∧ byt t k ≤ 57) := fun c => hv (dval10.2 c)
        rw [ek] at hv'
        have hno : k < t.size → ¬ dval (byt t k) < 10 := fun _ => hv
        by_cases g1 : (48 : Int) ≤ ((t[k]'hlt).toNat : Int)
        · have g2 : ¬ ((t[k]'hlt).toNat : Int) ≤ 57 := by omega
          obtain rfl : k = n := Lead.uniq ⟨hk, hj, hno⟩ hl
          exact absurd g1 (by rw [← ek]; omega)
        · skip
          obtain rfl : k = n := Lead.uniq ⟨hk, hj, hno⟩ hl
          clear hj hno
          go_wp2_with fail
          refine (RPo.out _).mono ?_
          rintro e w1 ⟨a1, rfl, g1s, b1⟩
          have bb := ba
          replace bb := bb.trans (b1.mono bb.size)
          replace qR := qR.later b1
          clear b1 RPo
          have v0 := qR.cell 0
          have v1 := qR.cell 1
          have v2 := qR.cell 2
          simp only [List.getElem?_toArray, List.getElem?_cons_zero, List.getElem?_cons_succ] at v0 v1 v2
          have fz := fun o => qR.frozen o
          go_wp2
          obtain ⟨c9, q9⟩ := qR.set3 (.bool false) (.slice none 0 0) (.slice none 0 0)
          have z0 := q9.cell 0
          have z1 := q9.cell 1
          have z2 := q9.cell 2
          simp only [List.getElem?_toArray, List.getElem?_cons_zero, List.getElem?_cons_succ] at z0 z1 z2
          clear v0 v1 v2
          refine bodyPost_ret (v := .tuple #[.agg #[.bool false, .slice none 0 0, .slice none 0 0], .int .i64 31]) (by rw [results_ct rfl]; go_simp) rfl ?_
          exact ⟨rfl, bb.trans (c9.below (Nat.le_refl _))⟩
    · have hki : ¬ ((k : Int) < (t.size : Int)) := by omega
      have hno : k < t.size → ¬ dval (byt t k) < 10 := fun c => absurd c hlt
      obtain rfl : k = n := Lead.uniq ⟨hk, hj, hno⟩ hl
      exact absurd hn hlt

end Go.Proofs.YtjbeagbkjmaeeaaGreatDoor

namespace Go.Proofs.YtjbeagbkjmaeeaaGreatDoor
open Go.RowKit
set_option linter.unusedVariables false
set_option linter.unusedSimpArgs false

theorem pt_ln {X n j V : Nat} (h1 : X < 10 ^ n) (h2 : V < 10 ^ j) (hn : n ≤ 140737488351232) (hj : j ≤ 140737488351232) : ln (X * 10 ^ j + V) ≤ 35184372088000 := by
  have h3 : X * 10 ^ j + V < 10 ^ (n + j) := by
    rw [Nat.pow_add]
    have : (X + 1) * 10 ^ j ≤ 10 ^ n * 10 ^ j := Nat.mul_le_mul_right _ h1
    rw [Nat.add_mul] at this
    omega
  have h4 : ln (X * 10 ^ j + V) ≤ (n + j) / 8 + 1 := ln_le_of_lt (Nat.lt_trans h3 (lt8 (by omega)))
  omega
theorem v_lt {v : ByteArray} {j : Nat} (hj : j ≤ v.size) (h : ∀ m, m < j → dval (byt v m) < 10) : val 10 (v.extract 0 j) < 10 ^ j := by
  have e : (v.extract 0 j).size = j := by simp only [ByteArray.size_extract]; omega
  have := val_lt (b := 10) (s := v.extract 0 j) (fun k hk => by rw [byt_extract hj (by omega), Nat.zero_add]; exact h k (by omega))
  rw [e] at this
  exact this
theorem val_none (v : ByteArray) : val 10 (v.extract 0 0) = 0 := by
  have e : (v.extract 0 0).size = 0 := by simp only [ByteArray.size_extract]; omega
  unfold val
  rw [e]
  rfl
theorem dval_dig {c : Nat} (h : 48 ≤ c ∧ c ≤ 57) : dval c = c - 48 := by unfold dval; rw [if_pos h]
theorem u8_sub {c : Nat} (h : 48 ≤ c ∧ c ≤ 57) : IntKind.u8.wrap ((c : Int) - 48) = ((c - 48 : Nat) : Int) := by
  unfold IntKind.wrap
  simp [IntKind.bits, IntKind.signed]
  omega
theorem pt_step {v : ByteArray} {X A j d : Nat} (hA : A = X * 10 ^ j + val 10 (v.extract 0 j)) (hd : dval (byt v j) = d) (hj : j < v.size) : A * 10 + d = X * 10 ^ (j + 1) + val 10 (v.extract 0 (j + 1)) := by
  rw [val_step hj, hd, hA, Nat.add_mul, Nat.pow_succ, ← Nat.mul_assoc]
  omega
theorem ext_all (v : ByteArray) : v.extract 0 v.size = v := by simp
end Go.Proofs.YtjbeagbkjmaeeaaGreatDoor
