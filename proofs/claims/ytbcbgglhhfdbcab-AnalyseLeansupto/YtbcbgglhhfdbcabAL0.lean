/-
  the law's same, ints, marks, twin.
-/
import Derived.Test.YtbcbgglhhfdbcabANA
namespace Go.Proofs.Ytbcbgglhhfdbcab
open Go.RowKit
set_option linter.unusedVariables false
set_option linter.unusedSimpArgs false
def sameL (l m : List Int) : Bool := decide (l = m)
theorem list_ext0 {l m : List Int} (h : l.length = m.length) (h2 : ∀ k, k < l.length → l.getD k 0 = m.getD k 0) : l = m := by
  apply List.ext_getElem h
  intro i h3 h4
  have := h2 i h3
  simpa [List.getD, List.getElem?_eq_getElem h3, List.getElem?_eq_getElem h4] using this
set_option maxHeartbeats 2000000 in
set_option maxRecDepth 100000 in
theorem same_is (a : Option Addr) (c : Nat) (l : List Int) (a2 : Option Addr) (c2 : Nat) (m : List Int) (w : World) (h : LsAt w a l) (h2 : LsAt w a2 m) :
    Calls Try.prog 13 #[.slice a l.length c, .slice a2 m.length c2] w fun e w' => e = .returned (.bool (sameL l m)) ∧ Below w.heap.size w w' := by
  obtain ⟨n, hn⟩ : ∃ n, l.length = n := ⟨_, rfl⟩
  obtain ⟨n2, hn2⟩ : ∃ n, m.length = n := ⟨_, rfl⟩
  have hM := h.1
  have HA := hide' (And.intro h h2)
  rw [hn] at hM ⊢
  rw [hn2]
  clear h h2
  by_cases hne : n = n2
  rotate_left
  · have HF := hide' (show sameL l m = false from by unfold sameL; rw [decide_eq_false]; intro e; rw [e, hn2] at hn; exact hne hn.symm)
    have e1 : ((n : Int) != (n2 : Int)) = true := by simp; omega
    replace hne := hide' hne
    clear hn hn2
    go_enter Try.func13, Try.ntmps13
    go_wp2
    go_ret
    exact ⟨(by rw [HF.out]; try rfl), Below.refl _ _⟩
  · subst hne
    have e1 : ((n : Int) != (n : Int)) = false := by simp
    replace hn := hide' hn
    replace hn2 := hide' hn2
    go_enter Try.func13, Try.ntmps13
    go_wp2_with fail
    go_loopw [5] (fun vi wr => ∃ k : Nat, k ≤ n ∧ vi = .int .i64 k ∧ (∀ i, i < k → l.getD i 0 = m.getD i 0) ∧ Below w.heap.size w wr) (fun vi _ => n - (intOf vi).toNat)
    case atStart => exact ⟨0, Nat.zero_le _, rfl, fun i hi => by omega, Below.refl _ _⟩
    case round =>
      obtain ⟨k, hk, rfl, hb, hB⟩ := hrel
      have HB := hide' hb
      clear hb
      by_cases hlt : k < n
      · obtain ⟨b1, o1, rfl, ck, _, _⟩ := HA.out.1.el hn.out hlt
        obtain ⟨b2, o2, rfl, ck2, _, _⟩ := HA.out.2.el hn2.out hlt
        replace ck := below_cell hB ck
        replace ck2 := below_cell hB ck2
        obtain ⟨x, hx⟩ : ∃ x, l.getD k 0 = x := ⟨_, rfl⟩
        obtain ⟨y, hy⟩ : ∃ y, m.getD k 0 = y := ⟨_, rfl⟩
        rw [hx] at ck
        rw [hy] at ck2
        have HXY := hide' (And.intro hx hy)
        clear hx hy
        have HBB := hide' hB
        clear hB
        have i1 : (k : Int) < (n : Int) := by omega
        have i0 : (0 : Int) ≤ (k : Int) := by omega
        by_cases hxy : x = y
        · have HN := hide' (show ∀ i, i < k + 1 → l.getD i 0 = m.getD i 0 from fun i hi => by rcases Nat.lt_or_ge i k with e | e; exact HB.out i e; (obtain rfl : i = k := by omega); rw [HXY.out.1, HXY.out.2]; exact hxy)
          have e2 : (x != y) = false := by simp [hxy]
          replace hxy := hide' hxy
          clear HB
          go_wp2_with fail
          go_quiet (fail)
          go_wp2
          go_roundw
          case rel => exact ⟨k + 1, by omega, by go_num, HN.out, by first | exact below_drewN HBB.out | exact HBB.out⟩
          case measure => simp only [intOf]; omega
        · have HF := hide' (show sameL l m = false from by unfold sameL; rw [decide_eq_false]; intro e; have h9 := HXY.out; rw [e] at h9; exact hxy (h9.1.symm.trans h9.2))
          have e2 : (x != y) = true := by simp [hxy]
          replace hxy := hide' hxy
          clear HB
          go_wp2_with fail
          go_quiet (fail)
          go_wp2
          go_ret
          exact ⟨(by rw [HF.out]; try rfl), below_drewN HBB.out⟩
      · obtain rfl : k = n := by omega
        have i1 : ¬ (k : Int) < (k : Int) := by omega
        have HF := hide' (show sameL l m = true from by unfold sameL; rw [decide_eq_true]; exact list_ext0 (by rw [hn.out, hn2.out]) fun i hi => HB.out i (by rw [hn.out] at hi; exact hi))
        clear HB
        go_wp2
        go_ret
        exact ⟨(by rw [HF.out]; try rfl), hB⟩
end Go.Proofs.Ytbcbgglhhfdbcab
