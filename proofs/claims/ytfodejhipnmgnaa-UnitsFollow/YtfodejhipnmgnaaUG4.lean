/-
  units: the reference's True and Made of truths; what follows from a fixpoint (pure).
-/
import Derived.Test.YtfodejhipnmgnaaUG3
namespace Go.Proofs.Ytfodejhipnmgnaa
open Go.RowKit
set_option linter.unusedVariables false
set_option linter.unusedSimpArgs false
theorem litT_neg (m : Nat) (v : Nat → Bool) {x : Int} (h : x ≠ 0) : litT m v (-x) = !litT m v x := by
  unfold litT
  have e : atm (-x) = atm x := by unfold atm; split <;> split <;> omega
  rw [e]
  cases (decide (atm x < m) && v (atm x).toNat)
  all_goals
    by_cases h1 : x > 0
    · have h2 : ¬ (-x > 0) := by omega
      simp [h1, h2]
      try omega
    · have h2 : -x > 0 := by omega
      simp [h1, h2]
      try omega
/-- all marks of the store that made gives were decided -/
theorem decL_dec {u : US} {d : Nat → Int} (h : u.mks = []) : ∀ k i, i < (decL u d k).mks.length → (mkU (decL u d k) i).r = -1
  | 0, i, hi => absurd hi (by show ¬ i < u.mks.length; rw [h]; simp)
  | k + 1, i, hi => by
    have ih := decL_dec h (d := d) k
    have e : decL u d (k + 1) = decF (decL u d k) (d k) := rfl
    rw [e] at hi ⊢
    unfold decF at hi ⊢
    split at hi
    · rename_i hc
      rw [if_pos hc]
      rw [put_len] at hi
      rw [put_mk]
      split
      · rfl
      · exact ih i (by omega)
    · rename_i hc
      rw [if_neg hc]
      exact ih i hi
/-- values that make the clauses true, and what was decided, make all marks true -/
theorem follow_all {u v : US} {m : Nat} {t : Nat → Bool} (hI : Iv v) (hE : Ex u v) (h0 : ∀ n, n < v.cl.length → ∃ y ∈ (clU v n).lits, litT m t y = true) (h1 : ∀ i, i < v.mks.length → (mkU v i).r = -1 → litT m t (mkU v i).l = true)
    (hd : ∀ i, i < u.mks.length → (mkU u i).r = -1) : ∀ i, i < v.mks.length → litT m t (mkU v i).l = true := by
  intro i
  induction i using Nat.strongRecOn with
  | ind i ih =>
    intro hi
    rcases Nat.lt_or_ge i u.mks.length with a | a
    · exact h1 i hi (by rw [hE.pre i a]; exact hd i a)
    · obtain ⟨n, e1, e2, e3, e4⟩ := hE.snd i a hi
      have e2' : n < v.cl.length := by rw [hE.cl]; exact e2
      obtain ⟨y, hy, hty⟩ := h0 n e2'
      rw [hE.lits] at hy
      by_cases e : y = (mkU v i).l
      · rw [← e]; exact hty
      · obtain ⟨j, hj, ej⟩ := e4 y hy e
        have h2 := ih j hj (by omega)
        have hy0 : y ≠ 0 := (hI.li n e2' y (by rw [hE.lits]; exact hy)).1
        rw [ej, litT_neg m t hy0, hty] at h2
        cases h2
theorem follow_no {v : US} {m : Nat} {t : Nat → Bool} (hI : Iv v) (h0 : ∀ n, n < v.cl.length → ∃ y ∈ (clU v n).lits, litT m t y = true) (h1 : ∀ i, i < v.mks.length → litT m t (mkU v i).l = true) (n : Nat) : ¬ Brk v n := by
  rintro ⟨hn, hb⟩
  obtain ⟨y, hy, hty⟩ := h0 n hn
  have hl := hI.li n hn y hy
  obtain ⟨j, hj, e⟩ := neg_mark hI hl (hb y hy)
  have h2 := h1 j hj
  rw [e, litT_neg m t hl.1, hty] at h2
  cases h2
theorem isLit_of {u : US} (hr : Rd u) {x : Int} (h : IsL u x) : isLit x = true := by
  have h1 := hr.nT
  obtain ⟨a, b, c⟩ := h
  unfold isLit
  have e : x ≠ -9223372036854775808 := by omega
  simp [a, e]
set_option maxHeartbeats 2000000 in
set_option maxRecDepth 100000 in
theorem Atom_is (x : Int) (hx : -9223372036854775808 < x) (hx2 : x ≤ 9223372036854775807) (w : World) :
    Calls Try.prog 51 #[.int .i64 x] w fun e w' => e = .returned (.int .i64 (atm x)) ∧ w' = w := by
  unfold atm
  go_enter Try.func51, Try.ntmps51
  by_cases h0 : x < 0
  · go_wp2
    go_ret
    exact ⟨by simp, rfl⟩
  · go_wp2
    go_ret
    exact ⟨rfl, rfl⟩
set_option maxHeartbeats 2000000 in
set_option maxRecDepth 100000 in
theorem True_is (x : Int) (va : Option Addr) (m vc : Nat) (v : Nat → Bool) (hx : -9223372036854775808 < x) (hx2 : x ≤ 9223372036854775807) (w : World) (hv : TruthsAt w va m v) :
    Calls Try.prog 26 #[.int .i64 x, .slice va m vc] w fun e w' => e = .returned (.bool (litT m v x)) ∧ w' = w := by
  have H := hide' (Atom_is x hx hx2 w)
  have ha : 0 ≤ atm x ∧ atm x ≤ 9223372036854775807 := by unfold atm; split <;> omega
  unfold litT
  obtain ⟨t, ht⟩ : ∃ t : Nat, atm x = t := ⟨(atm x).toNat, by omega⟩
  rw [ht] at H ha ⊢
  clear ht
  have hm := hv.1
  simp only [Int.toNat_natCast]
  go_enter Try.func26, Try.ntmps26
  go_wp2_with fail
  refine H.out.mono ?_
  rintro e w1 ⟨rfl, rfl⟩
  by_cases hlt : t < m
  · have hli : ((t : Int) < (m : Int)) := by omega
    obtain ⟨b, off, rfl, hc⟩ := hv.2 (by omega)
    have hct := hc t hlt
    clear hc hv
    obtain ⟨u, hu⟩ : ∃ u, v t = u := ⟨_, rfl⟩
    rw [hu] at hct
    have HU := hide' hu
    clear hu
    by_cases hp : x > 0
    · go_wp2
      go_ret
      exact ⟨by simp [hli, hlt, hp, HU.out], rfl⟩
    · go_wp2
      go_ret
      exact ⟨by simp [hli, hlt, hp, HU.out], rfl⟩
  · have hli : ¬ ((t : Int) < (m : Int)) := by omega
    by_cases hp : x > 0
    · go_wp2
      go_ret
      exact ⟨by simp [hli, hlt, hp], rfl⟩
    · go_wp2
      go_ret
      exact ⟨by simp [hli, hlt, hp], rfl⟩
set_option maxHeartbeats 2000000 in
set_option maxRecDepth 100000 in
theorem Made_is (a : Option Addr) (n c : Nat) (g : Nat → Int) (va : Option Addr) (m vc : Nat) (v : Nat → Bool) (w : World) (h : LitsAt w a n g) (hv : TruthsAt w va m v) (hl : ∀ i, i < n → isLit (g i) = true) :
    Calls Try.prog 25 #[.slice a n c, .slice va m vc] w fun e w' => e = .returned (.bool (!allN (fun x => !litT m v x) g n)) ∧ w' = w := by
  have HV := hide' (fun i hi => True_is (g i) va m vc v (by have h1 := (h.2.1 i hi).1; have h2 := hl i hi; unfold isLit at h2; simp at h2; omega) (h.2.1 i hi).2 w hv)
  have HL := hide' h
  have hn1 := h.1
  clear h hv hl
  go_enter Try.func25, Try.ntmps25
  go_wp2
  go_loopw [5] (fun vi wr => ∃ k : Nat, k ≤ n ∧ vi = .int .i64 k ∧ (∀ i, i < k → litT m v (g i) = false) ∧ wr = w) (fun vi _ => n - (intOf vi).toNat)
  case atStart => exact ⟨0, Nat.zero_le _, rfl, fun i hi => absurd hi (by omega), rfl⟩
  case round =>
    obtain ⟨k, hk, rfl, hb, hB⟩ := hrel
    rw [hB]
    clear hB
    have HB := hide' hb
    clear hb
    by_cases hlt : k < n
    · obtain ⟨b, off, rfl, hc⟩ := HL.out.2.2 (by omega)
      have hck := hc k hlt
      clear hc
      have hki : ((k : Int) < (n : Int)) := by omega
      have HK := hide' (HV.out k hlt)
      obtain ⟨x, hx⟩ : ∃ x, g k = x := ⟨_, rfl⟩
      rw [hx] at hck HK
      cases hy : litT m v x
      · rw [hy] at HK
        have HN := hide' (show ∀ i, i < k + 1 → litT m v (g i) = false from fun i hi => by by_cases e : i = k; (rw [e, hx]; exact hy); exact HB.out i (by omega))
        clear hx hy
        go_wp2_with fail
        refine HK.out.mono ?_
        rintro e w1 ⟨rfl, hw1⟩
        rw [hw1]
        clear hw1
        go_wp2
        go_roundw
        case rel => exact ⟨k + 1, by omega, by go_simp, HN.out, by first | rfl | trivial⟩
        case measure => simp only [intOf]; omega
      · rw [hy] at HK
        have HN := hide' (show allN (fun x => !litT m v x) g n = false from allN_false hlt (by rw [hx, hy]; rfl))
        clear hx hy
        go_wp2_with fail
        refine HK.out.mono ?_
        rintro e w1 ⟨rfl, hw1⟩
        rw [hw1]
        clear hw1
        go_wp2
        go_ret
        exact ⟨(by rw [HN.out]; try rfl), rfl⟩
    · have hki : ¬ ((k : Int) < (n : Int)) := by omega
      have HN := hide' (show allN (fun x => !litT m v x) g n = true from allN_true.2 fun i hi => by rw [HB.out i (by omega)]; rfl)
      go_wp2
      go_ret
      exact ⟨(by rw [HN.out]; try rfl), rfl⟩
end Go.Proofs.Ytfodejhipnmgnaa
