/-
  clauses: hasBoth, Contains; the law's same; the reference's Has, ahead, Covers.
-/
import Derived.Test.YtnjidhoceacenaaCLA
namespace Go.Proofs.Ytnjidhoceacenaa
open Go.RowKit
set_option linter.unusedVariables false
set_option linter.unusedSimpArgs false
theorem drw {w wr : World} {q : Nat} (h : Below w.heap.size w wr) : Below w.heap.size w (wr.drewN q) := h.trans ⟨rfl, rfl, rfl, Nat.le_refl _, fun _ _ => rfl⟩
theorem has_no {g : Nat → Int} {n : Nat} {x : Int} (h : ∀ i, i < n → g i ≠ x) : decide (x ∈ lst g n) = false := by
  rw [decide_eq_false_iff_not, mem_lst]
  rintro ⟨i, hi, e⟩
  exact h i hi e
theorem has_yes {g : Nat → Int} {n k : Nat} {x : Int} (hk : k < n) (h : g k = x) : decide (x ∈ lst g n) = true := by
  rw [decide_eq_true_eq, mem_lst]
  exact ⟨k, hk, h⟩
set_option maxHeartbeats 2000000 in
set_option maxRecDepth 100000 in
theorem Has_is (a : Option Addr) (n c : Nat) (g : Nat → Int) (x : Int) (w : World) (h : LitsAt w a n g) :
    Calls Try.prog 16 #[.slice a n c, .int .i64 x] w fun e w' => e = .returned (.bool (decide (x ∈ lst g n))) ∧ Below w.heap.size w w' := by
  have HL := hide' h
  have hn1 := h.1
  clear h
  go_enter Try.func16, Try.ntmps16
  go_wp2
  go_loopw [5] (fun vi wr => ∃ k : Nat, k ≤ n ∧ vi = .int .i64 k ∧ (∀ i, i < k → g i ≠ x) ∧ Below w.heap.size w wr) (fun vi _ => n - (intOf vi).toNat)
  case atStart => exact ⟨0, Nat.zero_le _, rfl, fun i hi => absurd hi (by omega), Below.refl _ _⟩
  case round =>
    obtain ⟨k, hk, rfl, hb, hB⟩ := hrel
    have HB := hide' hb
    clear hb
    by_cases hlt : k < n
    · skip
      obtain ⟨b, offb, rfl, hcb⟩ := HL.out.2.2 (by omega)
      have hck := below_cell hB (hcb k hlt)
      clear hcb
      have hki : ((k : Int) < (n : Int)) := by omega
      obtain ⟨y, hy⟩ : ∃ y, g k = y := ⟨_, rfl⟩
      rw [hy] at hck
      by_cases e : y = x
      · have HN := hide' (has_yes (g := g) hlt (show g k = x from hy.trans e))
        have e1 : (y == x) = true := by simp [e]
        clear hy e
        go_wp2
        go_ret
        exact ⟨(by rw [HN.out]; try rfl), hB⟩
      · have HN := hide' (show ∀ i, i < k + 1 → g i ≠ x from fun i hi => by by_cases e2 : i = k; (rw [e2, hy]; exact e); exact HB.out i (by omega))
        have e1 : (y == x) = false := by simp; exact fun h => e (h)
        clear hy e
        go_wp2
        go_roundw
        case rel => exact ⟨k + 1, by omega, by go_simp, HN.out, hB⟩
        case measure => simp only [intOf]; omega
    · have hki : ¬ ((k : Int) < (n : Int)) := by omega
      have HN := hide' (has_no (g := g) (n := n) (x := x) fun i hi => HB.out i (by omega))
      go_wp2
      go_ret
      exact ⟨(by rw [HN.out]; try rfl), hB⟩
set_option maxHeartbeats 2000000 in
set_option maxRecDepth 100000 in
theorem index_is (a : Option Addr) (n c : Nat) (g : Nat → Int) (x : Int) (w : World) (h : LitsAt w a n g) :
    Calls Try.prog 31 #[.slice a n c, .int .i64 x] w fun e w' => ∃ j : Int, e = .returned (.int .i64 j) ∧ decide (j ≥ 0) = decide (x ∈ lst g n) ∧ Below w.heap.size w w' := by
  have HL := hide' h
  have hn1 := h.1
  clear h
  go_enter Try.func31, Try.ntmps31
  go_wp2
  go_loopw [8] (fun vi wr => ∃ k : Nat, k ≤ n ∧ vi = .int .i64 k ∧ (∀ i, i < k → g i ≠ x) ∧ Below w.heap.size w wr) (fun vi _ => n - (intOf vi).toNat)
  case atStart => exact ⟨0, Nat.zero_le _, rfl, fun i hi => absurd hi (by omega), Below.refl _ _⟩
  case round =>
    obtain ⟨k, hk, rfl, hb, hB⟩ := hrel
    have HB := hide' hb
    clear hb
    by_cases hlt : k < n
    · skip
      obtain ⟨b, offb, rfl, hcb⟩ := HL.out.2.2 (by omega)
      have hck := below_cell hB (hcb k hlt)
      clear hcb
      have hki : ((k : Int) < (n : Int)) := by omega
      obtain ⟨y, hy⟩ : ∃ y, g k = y := ⟨_, rfl⟩
      rw [hy] at hck
      by_cases e : y = x
      · have HN := hide' (has_yes (g := g) hlt (show g k = x from hy.trans e))
        have e1 : (x == y) = true := by simp [e]
        clear hy e
        go_wp2
        go_ret
        exact ⟨_, rfl, (by have h9 := HN.out; simp only [decide_eq_false_iff_not, decide_eq_true_eq] at h9; simp [h9]), hB⟩
      · have HN := hide' (show ∀ i, i < k + 1 → g i ≠ x from fun i hi => by by_cases e2 : i = k; (rw [e2, hy]; exact e); exact HB.out i (by omega))
        have e1 : (x == y) = false := by simp; exact fun h => e (h.symm)
        clear hy e
        go_wp2
        go_roundw
        case rel => exact ⟨k + 1, by omega, by go_simp, HN.out, hB⟩
        case measure => simp only [intOf]; omega
    · have hki : ¬ ((k : Int) < (n : Int)) := by omega
      have HN := hide' (has_no (g := g) (n := n) (x := x) fun i hi => HB.out i (by omega))
      go_wp2
      go_ret
      exact ⟨_, rfl, (by have h9 := HN.out; simp only [decide_eq_false_iff_not, decide_eq_true_eq] at h9; simp [h9]), hB⟩
set_option maxHeartbeats 2000000 in
set_option maxRecDepth 100000 in
theorem contains_is (a : Option Addr) (n c : Nat) (g : Nat → Int) (x : Int) (w : World) (h : LitsAt w a n g) :
    Calls Try.prog 18 #[.slice a n c, .int .i64 x] w fun e w' => e = .returned (.bool (decide (x ∈ lst g n))) ∧ Below w.heap.size w w' := by
  have H := hide' (index_is a n c g x w h)
  clear h
  generalize decide (x ∈ lst g n) = r at H ⊢
  go_enter Try.func18, Try.ntmps18
  go_wp2_with fail
  refine H.out.mono ?_
  rintro e w1 ⟨j, rfl, hj, b1⟩
  have HJ := hide' hj
  clear hj
  go_wp2_with fail
  go_ret
  exact ⟨(by rw [← HJ.out]; try rfl), b1⟩
set_option maxHeartbeats 2000000 in
set_option maxRecDepth 100000 in
theorem ahead_is (x y : Int) (hx : -9223372036854775808 < x ∧ x ≤ 9223372036854775807) (hy : -9223372036854775808 < y ∧ y ≤ 9223372036854775807) (w : World) :
    Calls Try.prog 17 #[.int .i64 x, .int .i64 y] w fun e w' => e = .returned (.bool (decide (ahd x y))) ∧ w' = w := by
  have G1 := hide' (fun w' => Atom_is x hx.1 hx.2 w')
  have G2 := hide' (fun w' => Atom_is y hy.1 hy.2 w')
  have HR := hide' (show decide (ahd x y) = true ↔ (atm x < atm y ∨ (atm x = atm y ∧ y < x)) from decide_eq_true_iff)
  generalize decide (ahd x y) = r at HR ⊢
  generalize atm x = ax at *
  generalize atm y = ay at *
  clear hx hy
  go_enter Try.func17, Try.ntmps17
  go_wp2_with fail
  refine (G1.out _).mono ?_
  rintro e w9 ⟨rfl, rfl⟩
  go_wp2_with fail
  refine (G2.out _).mono ?_
  rintro e w9 ⟨rfl, rfl⟩
  by_cases he : ax = ay
  · have e1 : (ax != ay) = false := by simp [he]
    by_cases hg : x > y
    · go_wp2_with fail
      go_ret
      exact ⟨(by have h9 := HR.out; cases r <;> simp [he, hg] at h9 ⊢ <;> omega), rfl⟩
    · go_wp2_with fail
      go_ret
      exact ⟨(by have h9 := HR.out; cases r <;> simp [he, hg] at h9 ⊢ <;> omega), rfl⟩
  · have e1 : (ax != ay) = true := by simp [he]
    go_wp2_with fail
    refine (G1.out _).mono ?_
    rintro e w9 ⟨rfl, rfl⟩
    go_wp2_with fail
    refine (G2.out _).mono ?_
    rintro e w9 ⟨rfl, rfl⟩
    by_cases hg : ax < ay
    · go_wp2_with fail
      go_ret
      exact ⟨(by have h9 := HR.out; cases r <;> simp [he, hg] at h9 ⊢ <;> omega), rfl⟩
    · go_wp2_with fail
      go_ret
      exact ⟨(by have h9 := HR.out; cases r <;> simp [he, hg] at h9 ⊢ <;> omega), rfl⟩
set_option maxHeartbeats 2000000 in
set_option maxRecDepth 100000 in
theorem same_is (a : Option Addr) (n c : Nat) (g : Nat → Int) (a' : Option Addr) (n' c' : Nat) (g' : Nat → Int) (w : World) (h : LitsAt w a n g) (h' : LitsAt w a' n' g') (he : lst g n = lst g' n') :
    Calls Try.prog 6 #[.slice a n c, .slice a' n' c'] w fun e w' => e = .returned (.bool true) ∧ Below w.heap.size w w' := by
  obtain ⟨rfl, hg⟩ := lst_inj he
  have HL := hide' h
  have HM := hide' h'
  have HG := hide' hg
  have hn1 := h.1
  clear h h' he hg
  go_enter Try.func6, Try.ntmps6
  go_wp2
  go_loopw [5] (fun vi wr => ∃ k : Nat, k ≤ n ∧ vi = .int .i64 k ∧ True ∧ Below w.heap.size w wr) (fun vi _ => n - (intOf vi).toNat)
  case atStart => exact ⟨0, Nat.zero_le _, rfl, trivial, Below.refl _ _⟩
  case round =>
    obtain ⟨k, hk, rfl, hb, hB⟩ := hrel
    have HB := hide' hb
    clear hb
    by_cases hlt : k < n
    · skip
      obtain ⟨b, offb, rfl, hcb⟩ := HL.out.2.2 (by omega)
      obtain ⟨d, offd, rfl, hcd⟩ := HM.out.2.2 (by omega)
      have hck := below_cell hB (hcb k hlt)
      have hdk := below_cell hB (hcd k hlt)
      rw [← HG.out k hlt] at hdk
      clear hcb hcd
      have hki : ((k : Int) < (n : Int)) := by omega
      generalize g k = y at hck hdk
      have e1 : (y != y) = false := by simp
      go_wp2_with fail
      go_quiet (fail)
      go_wp2
      go_roundw
      case rel => exact ⟨k + 1, by omega, by go_simp, trivial, drw hB⟩
      case measure => simp only [intOf]; omega
    · have hki : ¬ ((k : Int) < (n : Int)) := by omega
      go_wp2
      go_ret
      exact ⟨rfl, hB⟩
set_option maxHeartbeats 2000000 in
set_option maxRecDepth 100000 in
theorem hasBoth_is (a : Option Addr) (n c : Nat) (g : Nat → Int) (w : World) (h : LitsAt w a n g) (hm : ∀ i, i < n → isLit (g i) = true) (hp : (lst g n).Pairwise ahd) :
    Calls Try.prog 14 #[.slice a n c] w fun e w' => e = .returned (.bool (decide (hasB (lst g n)))) ∧ Below w.heap.size w w' := by
  have HX := hide' (show hasB (lst g n) ↔ ∃ i, i + 1 < n ∧ g i = -g (i + 1) from by
    rw [hasB_next hp (fun h0 => by obtain ⟨i, hi, e⟩ := mem_lst.1 h0; have := hm i hi; rw [e] at this; exact absurd this (by decide))]
    simp only [lst_length, lst_get]
    exact ⟨fun ⟨i, h1, h2⟩ => ⟨i, h1, h2⟩, fun ⟨i, h1, h2⟩ => ⟨i, h1, h2⟩⟩)
  have HI := hide' (fun i (hi : i < n) => show -9223372036854775808 < g i ∧ g i ≤ 9223372036854775807 from by have h1 := h.2.1 i hi; have h2 := hm i hi; unfold isLit at h2; simp at h2; omega)
  have HL := hide' h
  have hn1 := h.1
  clear h hm hp
  go_enter Try.func14, Try.ntmps14
  go_wp2
  go_loopw [3] (fun vi wr => ∃ k : Nat, 1 ≤ k ∧ (k ≤ n ∨ k = 1) ∧ vi = .int .i64 k ∧ (∀ i, i + 1 < k → g i ≠ -g (i + 1)) ∧ Below w.heap.size w wr) (fun vi _ => n - (intOf vi).toNat)
  case atStart => exact ⟨1, Nat.le_refl _, Or.inr rfl, rfl, fun i hi => absurd hi (by omega), Below.refl _ _⟩
  case round =>
    obtain ⟨k, hk1, hk, rfl, hb, hB⟩ := hrel
    have HB := hide' hb
    clear hb
    by_cases hlt : k < n
    · skip
      obtain ⟨j, rfl⟩ : ∃ j, k = j + 1 := ⟨k - 1, by omega⟩
      obtain ⟨b, offb, rfl, hcb⟩ := HL.out.2.2 (by omega)
      have hck := below_cell hB (hcb (j + 1) hlt)
      have hdk := below_cell hB (hcb j (by omega))
      clear hcb
      have hki : (((j + 1 : Nat) : Int) < (n : Int)) := by omega
      have hr := HI.out (j + 1) hlt
      obtain ⟨y, hy⟩ : ∃ y, g (j + 1) = y := ⟨_, rfl⟩
      obtain ⟨x, hx⟩ : ∃ x, g j = x := ⟨_, rfl⟩
      rw [hy] at hck hr
      rw [hx] at hdk
      by_cases e : x = -y
      · have HN := hide' (show decide (hasB (lst g n)) = true from decide_eq_true (HX.out.2 ⟨j, hlt, by rw [hx, hy]; exact e⟩))
        have e1 : (x == -y) = true := by simp [e]
        clear hx hy e
        go_wp2_with fail
        go_quiet (fail)
        go_wp2
        go_ret
        exact ⟨(by rw [HN.out]; try rfl), drw hB⟩
      · have HN := hide' (show ∀ i, i + 1 < j + 1 + 1 → g i ≠ -g (i + 1) from fun i hi => by by_cases e2 : i = j; (rw [e2, hx, hy]; exact e); exact HB.out i (by omega))
        have e1 : (x == -y) = false := by simp [e]
        clear hx hy e
        go_wp2_with fail
        go_quiet (fail)
        go_wp2
        go_roundw
        case rel => exact ⟨j + 1 + 1, by omega, Or.inl (by omega), by go_simp, HN.out, drw hB⟩
        case measure => simp only [intOf]; omega
    · have hki : ¬ ((k : Int) < (n : Int)) := by omega
      have HN := hide' (show decide (hasB (lst g n)) = false from decide_eq_false fun h => by obtain ⟨i, h1, h2⟩ := HX.out.1 h; exact HB.out i (by omega) h2)
      go_wp2
      go_ret
      exact ⟨(by rw [HN.out]; try rfl), hB⟩
set_option maxHeartbeats 2000000 in
set_option maxRecDepth 100000 in
theorem rCovers_is (a : Option Addr) (n c : Nat) (g : Nat → Int) (a' : Option Addr) (n' c' : Nat) (g' : Nat → Int) (w : World) (h : LitsAt w a n g) (h' : LitsAt w a' n' g') :
    Calls Try.prog 10 #[.slice a n c, .slice a' n' c'] w fun e w' => e = .returned (.bool (allN (fun x => decide (x ∈ lst g' n')) g n)) ∧ Below w.heap.size w w' := by
  have GH := hide' (fun x w' (hb : Below w.heap.size w w') => Has_is a' n' c' g' x w' (h'.later hb))
  have HL := hide' h
  have hn1 := h.1
  clear h h'
  go_enter Try.func10, Try.ntmps10
  go_wp2
  go_loopw [5] (fun vi wr => ∃ k : Nat, k ≤ n ∧ vi = .int .i64 k ∧ (∀ i, i < k → decide (g i ∈ lst g' n') = true) ∧ Below w.heap.size w wr) (fun vi _ => n - (intOf vi).toNat)
  case atStart => exact ⟨0, Nat.zero_le _, rfl, fun i hi => absurd hi (by omega), Below.refl _ _⟩
  case round =>
    obtain ⟨k, hk, rfl, hb, hB⟩ := hrel
    have HB := hide' hb
    clear hb
    by_cases hlt : k < n
    · skip
      obtain ⟨b, offb, rfl, hcb⟩ := HL.out.2.2 (by omega)
      have hck := below_cell hB (hcb k hlt)
      clear hcb
      have hki : ((k : Int) < (n : Int)) := by omega
      have HK := hide' (GH.out (g k) wr hB)
      obtain ⟨y, hy⟩ : ∃ y, g k = y := ⟨_, rfl⟩
      rw [hy] at hck HK
      cases hd : decide (y ∈ lst g' n')
      · rw [hd] at HK
        have HN := hide' (show allN (fun x => decide (x ∈ lst g' n')) g n = false from allN_false hlt (by rw [hy]; exact hd))
        clear hy hd
        go_wp2_with fail
        refine HK.out.mono ?_
        rintro e w1 ⟨rfl, b1⟩
        replace hB := hB.trans (b1.mono hB.size)
        clear b1
        go_wp2
        go_ret
        exact ⟨(by rw [HN.out]; try rfl), hB⟩
      · rw [hd] at HK
        have HN := hide' (show ∀ i, i < k + 1 → decide (g i ∈ lst g' n') = true from fun i hi => by by_cases e2 : i = k; (rw [e2, hy]; exact hd); exact HB.out i (by omega))
        clear hy hd
        go_wp2_with fail
        refine HK.out.mono ?_
        rintro e w1 ⟨rfl, b1⟩
        replace hB := hB.trans (b1.mono hB.size)
        clear b1
        go_wp2
        go_roundw
        case rel => exact ⟨k + 1, by omega, by go_simp, HN.out, hB⟩
        case measure => simp only [intOf]; omega
    · have hki : ¬ ((k : Int) < (n : Int)) := by omega
      have HN := hide' (show allN (fun x => decide (x ∈ lst g' n')) g n = true from allN_true.2 fun i hi => HB.out i (by omega))
      go_wp2
      go_ret
      exact ⟨(by rw [HN.out]; try rfl), hB⟩
end Go.Proofs.Ytnjidhoceacenaa
