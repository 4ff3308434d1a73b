/-
  the law's truth, clause.
-/
import Derived.Test.YtbcbgglhhfdbcabAL0
import Derived.Test.YtbcbgglhhfdbcabAFP
namespace Go.Proofs.Ytbcbgglhhfdbcab
open Go.RowKit
set_option linter.unusedVariables false
set_option linter.unusedSimpArgs false
def truthV (T : List Int) (x : Int) : Bool := isLit x && (hasL T (atm x) == decide (0 < x))
theorem truthV_neg {T : List Int} {x : Int} (h : truthV T x = true) : truthV T (-x) = false := by
  unfold truthV at h ⊢
  rw [Bool.and_eq_true] at h
  have h0 := isLit_iff.1 h.1
  have e : atm (-x) = atm x := by unfold atm; split <;> split <;> omega
  rw [e]
  have h1 := h.2
  rw [beq_iff_eq] at h1
  rw [h1]
  by_cases q : 0 < x
  · rw [decide_eq_true q, decide_eq_false (show ¬ 0 < -x by omega)]; simp
  · rw [decide_eq_false q, decide_eq_true (show 0 < -x by omega)]; simp
theorem lean_true {C : List (List Int)} {M : List Mk} {T : List Int} (hc : Chk C M) (hC : ∀ c ∈ C, c.any (truthV T) = true) : ∀ n, n ≤ M.length → ∀ S : Nat → Bool, (∀ z ∈ finN (cauB C M) (rsnF M) n S, truthV T (litF M z) = true) → ∀ j, j < n → S j = true → truthV T (litF M j) = true
  | 0, _, _, _, j, hj, _ => absurd hj (by omega)
  | n + 1, hn, S, h, j, hj, hS => by
    rw [finN_succ] at h
    by_cases hSn : S n = true
    · rw [if_pos hSn] at h
      by_cases hd : rsnF M n = -1
      · rw [if_pos hd] at h
        by_cases e : j = n
        · subst e; exact h j List.mem_cons_self
        · exact lean_true hc hC n (by omega) S (fun z hz => h z (List.mem_cons_of_mem _ hz)) j (by omega) hS
      · rw [if_neg hd] at h
        have ih := lean_true hc hC n (by omega) _ h
        by_cases e : j = n
        · subst e
          obtain ⟨ρ, hρ, hρC, hmem, hfl⟩ := Chk.reason hc (p := j) (by omega) hd
          have hcl := hC (C.getD ρ []) (getD_mem hρC)
          rw [List.any_eq_true] at hcl
          obtain ⟨x, hx, ht⟩ := hcl
          by_cases ex : x = litF M j
          · rw [← ex]; exact ht
          · obtain ⟨_, h1, h2⟩ := hfl x hx ex
            rcases plV_spec M (-x) with ⟨h3, _⟩ | ⟨m, hm, h3, h4, _⟩
            · omega
            · have hmj : m < j := by omega
              have hcm : cauB C M j m = true := by
                unfold cauB
                rw [inL_iff]
                unfold cauL
                have er : (M.getD j default).r.toNat = ρ := by have : (M.getD j default).r = (ρ : Int) := hρ; omega
                rw [er, List.mem_map]
                exact ⟨x, List.mem_filter.2 ⟨hx, by show (x != litF M j) = true; rw [bne_iff_ne]; exact ex⟩, h3⟩
              have h5 := ih m hmj (by unfold uni; rw [hcm, Bool.or_true])
              have h6 : litF M m = -x := h4
              rw [h6, truthV_neg ht] at h5
              cases h5
        · exact ih j (by omega) (by unfold uni; rw [hS, Bool.true_or])
    · rw [if_neg hSn] at h
      by_cases e : j = n
      · subst e; exact absurd hS hSn
      · exact lean_true hc hC n (by omega) S h j (by omega) hS
theorem hasL_take {l : List Int} {k : Nat} {y : Int} (z : Int) (h : l.take (k + 1) = l.take k ++ [y]) : hasL (l.take (k + 1)) z = (hasL (l.take k) z || (y == z)) := by
  rw [Bool.eq_iff_iff, Bool.or_eq_true, hasL_iff, hasL_iff, h, List.mem_append, List.mem_singleton, beq_iff_eq]
  constructor
  · rintro (h | h); exact Or.inl h; exact Or.inr h.symm
  · rintro (h | h); exact Or.inl h; exact Or.inr h.symm
set_option maxHeartbeats 2000000 in
set_option maxRecDepth 100000 in
theorem truth_is (a : Option Addr) (c : Nat) (l : List Int) (x : Int) (hx : i64 x) (w : World) (h : LsAt w a l) :
    Calls Try.prog 19 #[.slice a l.length c, .int .i64 x] w fun e w' => e = .returned (.bool (truthV l x)) ∧ Below w.heap.size w w' := by
  obtain ⟨n, hn⟩ : ∃ n, l.length = n := ⟨_, rfl⟩
  have hM := h.1
  have HA := hide' h
  rw [hn] at hM ⊢
  replace hn := hide' hn
  clear h
  unfold i64 at hx
  obtain ⟨TV, hTV⟩ : ∃ z, truthV l x = z := ⟨_, rfl⟩
  rw [hTV]
  have HTV := hide' hTV
  clear hTV
  by_cases hm : x = -9223372036854775808
  · skip
    have e9 : TV = false := by rw [← HTV.out, hm]; unfold truthV; rfl
    subst e9; subst hm
    clear HTV
    have e8 : wrap64 9223372036854775808 = -9223372036854775808 := by first | (rw [show wrap64 9223372036854775808 = IntKind.i64.wrap 9223372036854775808 from rfl, IntKind.wrap_i64]; omega) | (unfold wrap64; omega)
    have e7 : ¬ (0 : Int) < wrap64 9223372036854775808 := by rw [e8]; omega
    go_enter Try.func19, Try.ntmps19
    go_wp2
    go_ret
    exact ⟨rfl, Below.refl _ _⟩
  by_cases h0 : x = 0
  · skip
    have e9 : TV = false := by rw [← HTV.out, h0]; unfold truthV; rfl
    subst e9; subst h0
    clear HTV
    go_enter Try.func19, Try.ntmps19
    go_wp2
    go_ret
    exact ⟨rfl, Below.refl _ _⟩
  obtain ⟨y, hy⟩ : ∃ y, atm x = y := ⟨_, rfl⟩
  have HTW := hide' (show TV = (hasL l y == decide (0 < x)) from by rw [← HTV.out, ← hy]; unfold truthV; rw [show isLit x = true from isLit_iff.2 ⟨h0, hm⟩]; simp)
  clear HTV
  have hyp : 0 < y ∧ y ≤ 9223372036854775807 ∧ ((x < 0 ∧ y = -x) ∨ (0 < x ∧ y = x)) := by rw [← hy]; unfold atm; split <;> omega
  clear hy
  have hw9 := wrap_neg (show -9223372036854775808 < x by omega) hx.2
  have hw8 := wrap_neg0 (show -9223372036854775808 < x by omega) hx.2
  rcases hyp with ⟨hy0, hy1, ⟨hs, rfl⟩ | ⟨hs, rfl⟩⟩
  · skip
    have s1 : x < 0 := by omega
    have s2 : ¬ -x ≤ 0 := by omega
    have s3 : decide (0 < x) = false := by exact decide_eq_false (by omega)
    clear hy0 hy1 hs s3
    go_enter Try.func19, Try.ntmps19
    go_wp2_with fail
    go_loopw [6, 7] (fun vin vi wr => ∃ k : Nat, k ≤ n ∧ vi = .int .i64 k ∧ vin = .bool (hasL (l.take k) (-x)) ∧ Below w.heap.size w wr) (fun _ vi _ => n - (intOf vi).toNat)
    case atStart => exact ⟨0, Nat.zero_le _, rfl, rfl, Below.refl _ _⟩
    case round =>
      obtain ⟨k, hk, rfl, rfl, hB⟩ := hrel
      by_cases hlt : k < n
      · obtain ⟨bb, off, rfl, ck, _, _⟩ := HA.out.el hn.out hlt
        replace ck := below_cell hB ck
        have HST := hide' (hasL_take (-x) (take_snoc l 0 hn.out hlt))
        obtain ⟨u, hu⟩ : ∃ u, l.getD k 0 = u := ⟨_, rfl⟩
        rw [hu] at ck HST
        clear hu
        obtain ⟨hb, hhb⟩ : ∃ z, hasL (l.take k) (-x) = z := ⟨_, rfl⟩
        rw [hhb] at HST
        try rw [hhb]
        clear hhb
        have i1 : (k : Int) < (n : Int) := by omega
        have i0 : (0 : Int) ≤ (k : Int) := by omega
        cases hb
        · skip
          go_wp2
          go_roundw
          case rel => exact ⟨k + 1, by omega, by go_num, by rw [HST.out]; first | rfl | simp, by first | exact below_drewN hB | exact hB⟩
          case measure => simp only [intOf]; omega
        · skip
          go_wp2
          go_roundw
          case rel => exact ⟨k + 1, by omega, by go_num, by rw [HST.out]; first | rfl | simp, by first | exact below_drewN hB | exact hB⟩
          case measure => simp only [intOf]; omega
      · obtain rfl : k = n := by omega
        have i9 : ¬ (k : Int) < (k : Int) := by omega
        have ht := take_all l hn.out
        rw [ht]
        go_wp2
        go_ret
        exact ⟨by rw [HTW.out]; first | rfl | (rw [decide_eq_true (show (0 : Int) < y by omega), show (hasL l y == true) = hasL l y from by cases hasL l y <;> rfl]; rfl) | (cases hasL l (-x) <;> rfl) | (cases hasL l (-x) <;> simp), hB⟩
  · skip
    have s1 : ¬ y < 0 := by omega
    have s2 : ¬ y ≤ 0 := by omega
    have s3 : decide (0 < y) = true := by exact decide_eq_true (by omega)
    clear hy0 hy1 hs s3
    go_enter Try.func19, Try.ntmps19
    go_wp2_with fail
    go_loopw [6, 7] (fun vin vi wr => ∃ k : Nat, k ≤ n ∧ vi = .int .i64 k ∧ vin = .bool (hasL (l.take k) (y)) ∧ Below w.heap.size w wr) (fun _ vi _ => n - (intOf vi).toNat)
    case atStart => exact ⟨0, Nat.zero_le _, rfl, rfl, Below.refl _ _⟩
    case round =>
      obtain ⟨k, hk, rfl, rfl, hB⟩ := hrel
      by_cases hlt : k < n
      · obtain ⟨bb, off, rfl, ck, _, _⟩ := HA.out.el hn.out hlt
        replace ck := below_cell hB ck
        have HST := hide' (hasL_take (y) (take_snoc l 0 hn.out hlt))
        obtain ⟨u, hu⟩ : ∃ u, l.getD k 0 = u := ⟨_, rfl⟩
        rw [hu] at ck HST
        clear hu
        obtain ⟨hb, hhb⟩ : ∃ z, hasL (l.take k) (y) = z := ⟨_, rfl⟩
        rw [hhb] at HST
        try rw [hhb]
        clear hhb
        have i1 : (k : Int) < (n : Int) := by omega
        have i0 : (0 : Int) ≤ (k : Int) := by omega
        cases hb
        · skip
          go_wp2
          go_roundw
          case rel => exact ⟨k + 1, by omega, by go_num, by rw [HST.out]; first | rfl | simp, by first | exact below_drewN hB | exact hB⟩
          case measure => simp only [intOf]; omega
        · skip
          go_wp2
          go_roundw
          case rel => exact ⟨k + 1, by omega, by go_num, by rw [HST.out]; first | rfl | simp, by first | exact below_drewN hB | exact hB⟩
          case measure => simp only [intOf]; omega
      · obtain rfl : k = n := by omega
        have i9 : ¬ (k : Int) < (k : Int) := by omega
        have ht := take_all l hn.out
        rw [ht]
        go_wp2
        go_ret
        exact ⟨by rw [HTW.out]; first | rfl | (rw [decide_eq_true (show (0 : Int) < y by omega), show (hasL l y == true) = hasL l y from by cases hasL l y <;> rfl]; rfl) | (cases hasL l (y) <;> rfl) | (cases hasL l (y) <;> simp), hB⟩
set_option maxHeartbeats 2000000 in
set_option maxRecDepth 100000 in
theorem clause_is (a : Option Addr) (c : Nat) (l : List Int) (a2 : Option Addr) (c2 : Nat) (m : List Int) (w : World) (h : LsAt w a l) (h2 : LsAt w a2 m) :
    Calls Try.prog 18 #[.slice a l.length c, .slice a2 m.length c2] w fun e w' => e = .returned (.bool (m.any (truthV l))) ∧ Below w.heap.size w w' := by
  obtain ⟨n, hn⟩ : ∃ n, m.length = n := ⟨_, rfl⟩
  have hM := h2.1
  have HA := hide' (And.intro h2 h)
  rw [hn] at hM ⊢
  replace hn := hide' hn
  clear h h2
  have GT := hide' (fun w' x hx (h : LsAt w' a l) => truth_is a c l x hx w' h)
  obtain ⟨ln, hln⟩ : ∃ n, l.length = n := ⟨_, rfl⟩
  rw [hln] at GT ⊢
  clear hln
  obtain ⟨TV, hTV⟩ : ∃ z, m.any (truthV l) = z := ⟨_, rfl⟩
  rw [hTV]
  have HTV := hide' hTV
  clear hTV
  go_enter Try.func18, Try.ntmps18
  go_wp2_with fail
  go_loopw [5] (fun vi wr => ∃ k : Nat, k ≤ n ∧ vi = .int .i64 k ∧ (m.take k).any (truthV l) = false ∧ Below w.heap.size w wr) (fun vi _ => n - (intOf vi).toNat)
  case atStart => exact ⟨0, Nat.zero_le _, rfl, rfl, Below.refl _ _⟩
  case round =>
    obtain ⟨k, hk, rfl, hal, hB⟩ := hrel
    have HAL := hide' hal
    clear hal
    by_cases hlt : k < n
    · obtain ⟨bb, off, rfl, ck, hlo, hhi⟩ := HA.out.1.el hn.out hlt
      replace ck := below_cell hB ck
      have HST := hide' (take_snoc m 0 hn.out hlt)
      have HME := hide' (getD_mem (l := m) (d := 0) (k := k) (by rw [hn.out]; exact hlt))
      obtain ⟨u, hu⟩ : ∃ u, m.getD k 0 = u := ⟨_, rfl⟩
      rw [hu] at ck HST hlo hhi HME
      clear hu
      have GT1 := hide' (GT.out wr u ⟨hlo, hhi⟩ (HA.out.2.later hB))
      obtain ⟨tv, htv⟩ : ∃ z, truthV l u = z := ⟨_, rfl⟩
      rw [htv] at GT1
      have i1 : (k : Int) < (n : Int) := by omega
      have i0 : (0 : Int) ≤ (k : Int) := by omega
      go_wp2_with fail
      refine GT1.out.mono ?_
      rintro e w5 ⟨rfl, b5⟩
      have hB5 := hB.trans (b5.mono hB.size)
      clear GT1 b5
      cases tv
      · have HN := hide' (show (m.take (k + 1)).any (truthV l) = false from by rw [HST.out, List.any_append, HAL.out]; simp [htv])
        go_wp2
        go_roundw
        case rel => exact ⟨k + 1, by omega, by go_num, HN.out, hB5⟩
        case measure => simp only [intOf]; omega
      · have e9 : TV = true := by rw [← HTV.out, List.any_eq_true]; exact ⟨u, HME.out, htv⟩
        subst e9
        clear HTV
        go_wp2
        go_ret
        exact ⟨rfl, hB5⟩
    · obtain rfl : k = n := by omega
      have i9 : ¬ (k : Int) < (k : Int) := by omega
      have e9 : TV = false := by rw [← HTV.out]; have h9 := HAL.out; rw [take_all m hn.out] at h9; exact h9
      subst e9
      clear HTV
      go_wp2
      go_ret
      exact ⟨rfl, hB⟩
end Go.Proofs.Ytbcbgglhhfdbcab
