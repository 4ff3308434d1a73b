/-
  clauses: areLiterals, isTrue; the reference's Literals, Made.
-/
import Derived.Test.YtknmngneffplmaaCL1
namespace Go.Proofs.Ytknmngneffplmaa
open Go.RowKit
set_option linter.unusedVariables false
set_option linter.unusedSimpArgs false
set_option maxHeartbeats 2000000 in
set_option maxRecDepth 100000 in
theorem isLiteral_is (x : Int) (w : World) :
    Calls Try.prog 33 #[.int .i64 x] w fun e w' => e = .returned (.bool (isLit x)) ∧ w' = w := by
  unfold isLit
  go_enter Try.func33, Try.ntmps33
  by_cases h0 : x = 0
  · subst h0; go_wp2; go_ret; exact ⟨rfl, rfl⟩
  by_cases h1 : x = -9223372036854775808
  · subst h1; go_wp2; go_ret; exact ⟨rfl, rfl⟩
  go_wp2
  go_ret
  exact ⟨by simp [h0, h1], rfl⟩
set_option maxHeartbeats 2000000 in
set_option maxRecDepth 100000 in
theorem areLit1_is (x : Int) (w : World) :
    Calls Try.prog 32 #[.int .i64 x] w fun e w' => e = .returned (.bool (!isLit x)) ∧ Below w.heap.size w w' := by
  have H := hide' (isLiteral_is x w)
  generalize isLit x = b at H ⊢
  go_enter Try.func32, Try.ntmps32
  go_wp2_with fail
  refine H.out.mono ?_
  rintro e w1 ⟨rfl, rfl⟩
  go_wp2
  go_ret
  exact ⟨rfl, Below.refl _ _⟩
set_option maxHeartbeats 2000000 in
set_option maxRecDepth 100000 in
theorem areLiterals_is (a : Option Addr) (n c : Nat) (g : Nat → Int) (w : World) (h : LitsAt w a n g) :
    Calls Try.prog 14 #[.slice a n c] w fun e w' => e = .returned (.bool (allN isLit g n)) ∧ Below w.heap.size w w' := by
  have H := hide' (containsF_lit a n c g (fun x => !isLit x) w h (fun w' i _ _ => areLit1_is (g i) w'))
  simp only [Bool.not_not] at H
  generalize allN (fun x => isLit x) g n = b at H ⊢
  clear h
  go_enter Try.func14, Try.ntmps14
  go_wp2_with fail
  refine H.out.mono ?_
  rintro e w1 ⟨rfl, b1⟩
  go_wp2
  go_ret
  exact ⟨by simp, b1⟩
set_option maxHeartbeats 2000000 in
set_option maxRecDepth 100000 in
theorem atomOf_is (x : Int) (hx : -9223372036854775808 < x) (hx2 : x ≤ 9223372036854775807) (w : World) :
    Calls Try.prog 47 #[.int .i64 x] w fun e w' => e = .returned (.int .i64 (atm x)) ∧ w' = w := by
  unfold atm
  go_enter Try.func47, Try.ntmps47
  by_cases h0 : x < 0
  · go_wp2
    go_ret
    exact ⟨rfl, rfl⟩
  · go_wp2
    go_ret
    exact ⟨rfl, rfl⟩
set_option maxHeartbeats 2000000 in
set_option maxRecDepth 100000 in
theorem Atom_is (x : Int) (hx : -9223372036854775808 < x) (hx2 : x ≤ 9223372036854775807) (w : World) :
    Calls Try.prog 37 #[.int .i64 x] w fun e w' => e = .returned (.int .i64 (atm x)) ∧ w' = w := by
  unfold atm
  go_enter Try.func37, Try.ntmps37
  by_cases h0 : x < 0
  · go_wp2
    go_ret
    exact ⟨by simp, rfl⟩
  · go_wp2
    go_ret
    exact ⟨rfl, rfl⟩
set_option maxHeartbeats 2000000 in
set_option maxRecDepth 100000 in
theorem isTrue1_is (x : Int) (va : Option Addr) (m vc : Nat) (v : Nat → Bool) (cb : Nat) (hx : -9223372036854775808 < x) (hx2 : x ≤ 9223372036854775807) (w : World) (hv : TruthsAt w va m v) (hcb : w.cell? ⟨cb, 0, none⟩ = some (.slice va m vc)) :
    Calls Try.prog 46 #[.int .i64 x, .pointer (some ⟨cb, 0, none⟩)] w fun e w' => e = .returned (.bool (litT m v x)) ∧ Below w.heap.size w w' := by
  have H := hide' (atomOf_is x hx hx2 w)
  have ha : 0 ≤ atm x ∧ atm x ≤ 9223372036854775807 := by unfold atm; split <;> omega
  unfold litT
  obtain ⟨t, ht⟩ : ∃ t : Nat, atm x = t := ⟨(atm x).toNat, by omega⟩
  rw [ht] at H ha ⊢
  clear ht
  have hm := hv.1
  simp only [Int.toNat_natCast]
  go_enter Try.func46, Try.ntmps46
  go_wp2_with fail
  refine H.out.mono ?_
  rintro e w1 ⟨rfl, rfl⟩
  by_cases hlt : t < m
  · have hli : ((t : Int) < (m : Int)) := by omega
    obtain ⟨b, off, rfl, hc⟩ := hv.2 (by omega)
    have hct := hc t hlt
    clear hc hv
    obtain ⟨u, hu⟩ : ∃ u, v t = u := ⟨_, rfl⟩
    rw [hu] at hct
    have HU := hide' hu
    clear hu
    by_cases hp : x > 0
    · go_wp2
      go_ret
      exact ⟨by simp [hli, hlt, hp, HU.out], Below.refl _ _⟩
    · go_wp2
      go_ret
      exact ⟨by simp [hli, hlt, hp, HU.out], Below.refl _ _⟩
  · have hli : ¬ ((t : Int) < (m : Int)) := by omega
    by_cases hp : x > 0
    · go_wp2
      go_ret
      exact ⟨by simp [hli, hlt, hp], Below.refl _ _⟩
    · go_wp2
      go_ret
      exact ⟨by simp [hli, hlt, hp], Below.refl _ _⟩
set_option maxHeartbeats 2000000 in
set_option maxRecDepth 100000 in
theorem True_is (x : Int) (va : Option Addr) (m vc : Nat) (v : Nat → Bool) (hx : -9223372036854775808 < x) (hx2 : x ≤ 9223372036854775807) (w : World) (hv : TruthsAt w va m v) :
    Calls Try.prog 48 #[.int .i64 x, .slice va m vc] w fun e w' => e = .returned (.bool (litT m v x)) ∧ Below w.heap.size w w' := by
  have H := hide' (Atom_is x hx hx2 w)
  have ha : 0 ≤ atm x ∧ atm x ≤ 9223372036854775807 := by unfold atm; split <;> omega
  unfold litT
  obtain ⟨t, ht⟩ : ∃ t : Nat, atm x = t := ⟨(atm x).toNat, by omega⟩
  rw [ht] at H ha ⊢
  clear ht
  have hm := hv.1
  simp only [Int.toNat_natCast]
  go_enter Try.func48, Try.ntmps48
  go_wp2_with fail
  refine H.out.mono ?_
  rintro e w1 ⟨rfl, rfl⟩
  by_cases hlt : t < m
  · have hli : ((t : Int) < (m : Int)) := by omega
    obtain ⟨b, off, rfl, hc⟩ := hv.2 (by omega)
    have hct := hc t hlt
    clear hc hv
    obtain ⟨u, hu⟩ : ∃ u, v t = u := ⟨_, rfl⟩
    rw [hu] at hct
    have HU := hide' hu
    clear hu
    by_cases hp : x > 0
    · go_wp2
      go_ret
      exact ⟨by simp [hli, hlt, hp, HU.out], Below.refl _ _⟩
    · go_wp2
      go_ret
      exact ⟨by simp [hli, hlt, hp, HU.out], Below.refl _ _⟩
  · have hli : ¬ ((t : Int) < (m : Int)) := by omega
    by_cases hp : x > 0
    · go_wp2
      go_ret
      exact ⟨by simp [hli, hlt, hp], Below.refl _ _⟩
    · go_wp2
      go_ret
      exact ⟨by simp [hli, hlt, hp], Below.refl _ _⟩
set_option maxHeartbeats 2000000 in
set_option maxRecDepth 100000 in
theorem isTrue_is (a : Option Addr) (n c : Nat) (g : Nat → Int) (va : Option Addr) (m vc : Nat) (v : Nat → Bool) (w : World) (h : LitsAt w a n g) (hv : TruthsAt w va m v) (hl : ∀ i, i < n → isLit (g i) = true) :
    Calls Try.prog 29 #[.slice a n c, .slice va m vc] w fun e w' => e = .returned (.bool (!allN (fun x => !litT m v x) g n)) ∧ Below w.heap.size w w' := by
  have bA := below_alloc (w := w) (.cells #[.slice va m vc] 32)
  have d0 : (w.alloc (.cells #[.slice va m vc] 32)).cell? ⟨w.heap.size, 0, none⟩ = some (.slice va m vc) := by go_simp
  have H := hide' (containsF_true a n c g (litT m v) w.heap.size (w.alloc (.cells #[.slice va m vc] 32)) (h.later bA) (fun w' i hb hi => isTrue1_is (g i) va m vc v w.heap.size (by have h1 := (h.2.1 i hi).1; have h2 := hl i hi; unfold isLit at h2; simp at h2; omega) (h.2.1 i hi).2 w' ((hv.later bA).later hb) (below_cell hb d0)))
  clear h hv hl d0
  generalize (!allN (fun x => !litT m v x) g n) = r at H ⊢
  go_enter Try.func29, Try.ntmps29
  go_wp2_with fail
  refine H.out.mono ?_
  rintro e w1 ⟨rfl, b1⟩
  go_wp2
  go_ret
  exact ⟨rfl, bA.trans (b1.mono bA.size)⟩
set_option maxHeartbeats 2000000 in
set_option maxRecDepth 100000 in
theorem Literals_is (a : Option Addr) (n c : Nat) (g : Nat → Int) (w : World) (h : LitsAt w a n g) :
    Calls Try.prog 18 #[.slice a n c] w fun e w' => e = .returned (.bool (allN isLit g n)) ∧ Below w.heap.size w w' := by
  have HL := hide' h
  have hn1 := h.1
  clear h
  go_enter Try.func18, Try.ntmps18
  go_wp2
  go_loopw [3] (fun vi wr => ∃ k : Nat, k ≤ n ∧ vi = .int .i64 k ∧ (∀ i, i < k → isLit (g i) = true) ∧ Below w.heap.size w wr) (fun vi _ => n - (intOf vi).toNat)
  case atStart => exact ⟨0, Nat.zero_le _, rfl, fun i hi => absurd hi (by omega), Below.refl _ _⟩
  case round =>
    obtain ⟨k, hk, rfl, hb, hB⟩ := hrel
    have HB := hide' hb
    clear hb
    by_cases hlt : k < n
    · obtain ⟨b, off, rfl, hc⟩ := HL.out.2.2 (by omega)
      have hck := below_cell hB (hc k hlt)
      clear hc
      have hki : ((k : Int) < (n : Int)) := by omega
      obtain ⟨x, hx⟩ : ∃ x, g k = x := ⟨_, rfl⟩
      rw [hx] at hck
      by_cases h0 : x = 0
      · have HN := hide' (show allN isLit g n = false from allN_false hlt (by rw [hx, h0]; decide))
        clear hx
        subst h0
        go_wp2
        go_ret
        exact ⟨(by rw [HN.out]; try rfl), hB⟩
      have h1 := h0
      clear h0
      by_cases h0 : x = -9223372036854775808
      · have HN := hide' (show allN isLit g n = false from allN_false hlt (by rw [hx, h0]; decide))
        clear hx
        subst h0
        go_wp2
        go_ret
        exact ⟨(by rw [HN.out]; try rfl), hB⟩
      have HN := hide' (show ∀ i, i < k + 1 → isLit (g i) = true from fun i hi => by by_cases e : i = k; (rw [e, hx]; simp [isLit, h0, h1]); exact HB.out i (by omega))
      clear hx
      have e0 : (x == 0) = false := by simp [h1]
      have e1 : (x == -9223372036854775808) = false := by simp [h0]
      clear h0 h1
      go_wp2
      go_roundw
      case rel => exact ⟨k + 1, by omega, by go_simp, HN.out, hB⟩
      case measure => simp only [intOf]; omega
    · have hki : ¬ ((k : Int) < (n : Int)) := by omega
      have HN := hide' (show allN isLit g n = true from allN_true.2 fun i hi => HB.out i (by omega))
      go_wp2
      go_ret
      exact ⟨(by rw [HN.out]; try rfl), hB⟩
set_option maxHeartbeats 2000000 in
set_option maxRecDepth 100000 in
theorem Made_is (a : Option Addr) (n c : Nat) (g : Nat → Int) (va : Option Addr) (m vc : Nat) (v : Nat → Bool) (w : World) (h : LitsAt w a n g) (hv : TruthsAt w va m v) (hl : ∀ i, i < n → isLit (g i) = true) :
    Calls Try.prog 30 #[.slice a n c, .slice va m vc] w fun e w' => e = .returned (.bool (!allN (fun x => !litT m v x) g n)) ∧ Below w.heap.size w w' := by
  have HV := hide' (fun w' i (hb : Below w.heap.size w w') hi => True_is (g i) va m vc v (by have h1 := (h.2.1 i hi).1; have h2 := hl i hi; unfold isLit at h2; simp at h2; omega) (h.2.1 i hi).2 w' (hv.later hb))
  have HL := hide' h
  have hn1 := h.1
  clear h hv hl
  go_enter Try.func30, Try.ntmps30
  go_wp2
  go_loopw [5] (fun vi wr => ∃ k : Nat, k ≤ n ∧ vi = .int .i64 k ∧ (∀ i, i < k → litT m v (g i) = false) ∧ Below w.heap.size w wr) (fun vi _ => n - (intOf vi).toNat)
  case atStart => exact ⟨0, Nat.zero_le _, rfl, fun i hi => absurd hi (by omega), Below.refl _ _⟩
  case round =>
    obtain ⟨k, hk, rfl, hb, hB⟩ := hrel
    have HB := hide' hb
    clear hb
    by_cases hlt : k < n
    · obtain ⟨b, off, rfl, hc⟩ := HL.out.2.2 (by omega)
      have hck := below_cell hB (hc k hlt)
      clear hc
      have hki : ((k : Int) < (n : Int)) := by omega
      have HK := hide' (HV.out wr k hB hlt)
      obtain ⟨x, hx⟩ : ∃ x, g k = x := ⟨_, rfl⟩
      rw [hx] at hck HK
      cases hy : litT m v x
      · rw [hy] at HK
        have HN := hide' (show ∀ i, i < k + 1 → litT m v (g i) = false from fun i hi => by by_cases e : i = k; (rw [e, hx]; exact hy); exact HB.out i (by omega))
        clear hx hy
        go_wp2_with fail
        refine HK.out.mono ?_
        rintro e w1 ⟨rfl, b1⟩
        replace hB := hB.trans (b1.mono hB.size)
        clear b1
        go_wp2
        go_roundw
        case rel => exact ⟨k + 1, by omega, by go_simp, HN.out, hB⟩
        case measure => simp only [intOf]; omega
      · rw [hy] at HK
        have HN := hide' (show allN (fun x => !litT m v x) g n = false from allN_false hlt (by rw [hx, hy]; rfl))
        clear hx hy
        go_wp2_with fail
        refine HK.out.mono ?_
        rintro e w1 ⟨rfl, b1⟩
        replace hB := hB.trans (b1.mono hB.size)
        clear b1
        go_wp2
        go_ret
        exact ⟨(by rw [HN.out]; try rfl), hB⟩
    · have hki : ¬ ((k : Int) < (n : Int)) := by omega
      have HN := hide' (show allN (fun x => !litT m v x) g n = true from allN_true.2 fun i hi => by rw [HB.out i (by omega)]; rfl)
      go_wp2
      go_ret
      exact ⟨(by rw [HN.out]; try rfl), hB⟩
end Go.Proofs.Ytknmngneffplmaa
