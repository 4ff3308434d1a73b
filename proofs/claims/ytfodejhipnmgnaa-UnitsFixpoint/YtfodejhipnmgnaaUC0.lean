/-
  units: the program's calls that only read.
-/
import Derived.Test.YtfodejhipnmgnaaUP0
import Derived.Deep.QuietTactic
namespace Go.Proofs.Ytfodejhipnmgnaa
open Go.RowKit
set_option linter.unusedVariables false
set_option linter.unusedSimpArgs false
set_option maxHeartbeats 2000000 in
set_option maxRecDepth 100000 in
theorem list_is (x : Int) (h1 : -1048576 ≤ x) (h2 : x ≤ 1048576) (w : World) :
    Calls Try.prog 36 #[.int .i64 x] w fun e w' => e = .returned (.int .i64 (lstV x)) ∧ w' = w := by
  have e1 : x < 0 → ((lstV x : Nat) : Int) = -2 * x + 1 := fun h => by unfold lstV; rw [if_pos h]; omega
  have e2 : ¬ x < 0 → ((lstV x : Nat) : Int) = 2 * x := fun h => by unfold lstV; rw [if_neg h]; omega
  by_cases h0 : x < 0
  · rw [e1 h0]
    clear e1 e2
    go_enter Try.func36, Try.ntmps36
    go_wp2
    go_ret
    exact ⟨rfl, rfl⟩
  · rw [e2 h0]
    clear e1 e2
    go_enter Try.func36, Try.ntmps36
    go_wp2
    go_ret
    exact ⟨rfl, rfl⟩
set_option maxHeartbeats 2000000 in
set_option maxRecDepth 100000 in
theorem truth_is (ow : Nat → Tg) (b : Nat) (V : SV) (u : US) (x : Int) (hx : InR u x) (w : World) (h : UM w ow b V u) (hr : Rd u)  :
    Calls Try.prog 53 #[.pointer (some ⟨b, 0, none⟩), .int .i64 x] w fun e w' => e = .returned (.int .i64 (trv u x)) ∧ w' = w := by
  obtain ⟨hx1, hx2⟩ := hx
  have hT := hr.nT
  have hM := hr.nM
  have hb := hr.tb x.natAbs
  obtain ⟨g, hg⟩ := h.rtr.got hr.n0
  have c0 := h.cells.2.2.1
  rw [SlV.val_some hg] at c0
  obtain ⟨m, hm⟩ : ∃ m, x.natAbs = m := ⟨_, rfl⟩
  have hl : m < u.tr.length := by omega
  have k := h.rtr.cell hg (j := m) (by omega)
  rw [iv_at (z := u.tr.getD m 0) (by simp [List.getD, List.getElem?_eq_getElem hl])] at k
  generalize V.tr.c = c at c0
  rw [hm] at hb
  obtain ⟨t, ht⟩ : ∃ t, u.tr.getD m 0 = t := ⟨_, rfl⟩
  rw [ht] at k hb
  generalize u.tr.length = L at *
  by_cases h0 : x < 0
  · have e : trv u x = -t := by unfold trv; rw [if_pos h0, hm, ht]
    rw [e]
    clear e ht hr h hg
    obtain rfl : x = -(m : Int) := by omega
    clear hm
    go_enter Try.func53, Try.ntmps53
    go_wp2
    go_ret
    exact ⟨rfl, rfl⟩
  · have e : trv u x = t := by unfold trv; rw [if_neg h0, hm, ht]
    rw [e]
    clear e ht hr h hg
    obtain rfl : x = (m : Int) := by omega
    clear hm
    go_enter Try.func53, Try.ntmps53
    go_wp2
    go_ret
    exact ⟨rfl, rfl⟩
set_option maxHeartbeats 2000000 in
set_option maxRecDepth 100000 in
theorem falls_is (ow : Nat → Tg) (b : Nat) (V : SV) (u : US) (x : Int) (hx : InR u x) (w : World) (h : UM w ow b V u) (hr : Rd u)  :
    Calls Try.prog 65 #[.pointer (some ⟨b, 0, none⟩), .int .i64 x] w fun e w' => e = .returned (.int .i64 (fallsV u x)) ∧ w' = w := by
  have G := hide' (truth_is ow b V u x hx w h hr)
  have ht := hr.tv x
  have hM := hr.nM
  unfold fallsV nev
  clear h hr
  generalize trv u x = t at G ht ⊢
  generalize u.mks.length = M at ht hM
  clear hx
  by_cases h0 : x = 0
  · rw [if_pos h0]
    subst h0
    go_enter Try.func65, Try.ntmps65
    go_wp2_with fail
    refine G.out.mono ?_
    rintro e w1 ⟨rfl, rfl⟩
    go_wp2
    go_ret
    exact ⟨rfl, rfl⟩
  · rw [if_neg h0]
    by_cases h1 : t < 0
    · rw [if_pos h1]
      go_enter Try.func65, Try.ntmps65
      go_wp2_with fail
      refine G.out.mono ?_
      rintro e w1 ⟨rfl, rfl⟩
      go_wp2
      go_ret
      exact ⟨rfl, rfl⟩
    · rw [if_neg h1]
      go_enter Try.func65, Try.ntmps65
      go_wp2_with fail
      refine G.out.mono ?_
      rintro e w1 ⟨rfl, rfl⟩
      go_wp2
      go_ret
      exact ⟨rfl, rfl⟩
set_option maxHeartbeats 2000000 in
set_option maxRecDepth 100000 in
theorem since_is (ow : Nat → Tg) (b : Nat) (V : SV) (u : US) (x : Int) (hx : InR u x) (w : World) (h : UM w ow b V u) (hr : Rd u)  :
    Calls Try.prog 63 #[.pointer (some ⟨b, 0, none⟩), .int .i64 x] w fun e w' => e = .returned (.int .i64 (sinceV u x)) ∧ w' = w := by
  have G := hide' (truth_is ow b V u x hx w h hr)
  have ht := hr.tv x
  have hM := hr.nM
  unfold sinceV nev
  by_cases h0 : x = 0
  · rw [if_pos h0]
    subst h0
    clear G
    go_enter Try.func63, Try.ntmps63
    go_wp2
    go_ret
    exact ⟨rfl, rfl⟩
  · rw [if_neg h0]
    by_cases h1 : trv u x = 0
    · rw [if_pos h1]
      rw [h1] at G
      go_enter Try.func63, Try.ntmps63
      go_wp2_with fail
      refine G.out.mono ?_
      rintro e w1 ⟨rfl, rfl⟩
      go_wp2
      go_ret
      exact ⟨rfl, rfl⟩
    · rw [if_neg h1]
      obtain ⟨g, hg⟩ := h.rmk.got (by omega)
      have c1 := h.cells.2.2.2.1
      rw [SlV.val_some hg] at c1
      obtain ⟨m, hm⟩ : ∃ m, (trv u x).natAbs = m + 1 := ⟨(trv u x).natAbs - 1, by omega⟩
      rw [hm, Nat.add_sub_cancel]
      have hl : m < u.mks.length := by omega
      have k := h.rmk.cell hg (j := m * 3 + 1) (by omega)
      rw [(mkC_at u.mks m hl).2.1] at k
      generalize trv u x = t at G ht h1 hm
      generalize (u.mks.getD m default).v = v at k ⊢
      generalize u.mks.length = M at *
      generalize V.mks.c = c at c1
      clear h hr hg hx
      by_cases h2 : t < 0
      · obtain rfl : t = -((m : Int) + 1) := by omega
        clear hm ht h1 h2
        go_enter Try.func63, Try.ntmps63
        go_wp2_with fail
        refine G.out.mono ?_
        rintro e w1 ⟨rfl, rfl⟩
        go_wp2
        go_ret
        exact ⟨rfl, rfl⟩
      · obtain rfl : t = (m : Int) + 1 := by omega
        clear hm ht h1 h2
        go_enter Try.func63, Try.ntmps63
        go_wp2_with fail
        refine G.out.mono ?_
        rintro e w1 ⟨rfl, rfl⟩
        go_wp2
        go_ret
        exact ⟨rfl, rfl⟩
set_option maxHeartbeats 2000000 in
set_option maxRecDepth 100000 in
theorem isLit_is (ow : Nat → Tg) (b : Nat) (V : SV) (u : US) (x : Int) (h1 : -9223372036854775808 ≤ x) (h2 : x ≤ 9223372036854775807) (w : World) (h : UM w ow b V u) (hr : Rd u)  :
    Calls Try.prog 52 #[.pointer (some ⟨b, 0, none⟩), .int .i64 x] w fun e w' => e = .returned (.bool (decide (x ≠ 0) && (decide (-((u.tr.length : Int) - 1) ≤ x) && decide (x ≤ (u.tr.length : Int) - 1)))) ∧ Below w.heap.size w w' := by
  obtain ⟨n, hn⟩ : ∃ n, u.tr.length = n + 1 := ⟨u.tr.length - 1, by have := hr.n0; omega⟩
  have hT := hr.nT
  obtain ⟨g, hg⟩ := h.rtr.got hr.n0
  have c0 := h.cells.2.2.1
  rw [SlV.val_some hg, hn] at c0
  have e1 : (u.tr.length : Int) - 1 = n := by omega
  rw [e1]
  have hn2 : n ≤ 262144 := by omega
  have G := hide' (fun w' (hb : Below w.heap.size w w') => atomsM b g n V.tr.c w' (below_cell hb c0) (by omega))
  clear h hr c0 e1 hn hT hg
  by_cases h0 : x = 0
  · subst h0
    clear G
    go_enter Try.func52, Try.ntmps52
    go_wp2
    go_ret
    exact ⟨rfl, Below.refl _ _⟩
  · by_cases h3 : -(n : Int) ≤ x
    · skip
      go_enter Try.func52, Try.ntmps52
      go_wp2_with fail
      refine (G.out _ (Below.refl _ _)).mono ?_
      rintro e w1 ⟨rfl, b1⟩
      go_wp2_with fail
      refine (G.out _ b1).mono ?_
      rintro e w2 ⟨rfl, b2⟩
      go_wp2
      go_ret
      refine ⟨?_, b1.trans (b2.mono b1.size)⟩
      simp [h0, h3]
    · skip
      go_enter Try.func52, Try.ntmps52
      go_wp2_with fail
      refine (G.out _ (Below.refl _ _)).mono ?_
      rintro e w1 ⟨rfl, b1⟩
      go_wp2
      go_ret
      refine ⟨?_, b1⟩
      rw [show decide (-(n : Int) ≤ x) = false from decide_eq_false (by omega)]; simp
end Go.Proofs.Ytfodejhipnmgnaa
