/-
  units: watch (pure): what it wants and what is there behind it.
-/
import Derived.Test.YtfodejhipnmgnaaUQ1
import Derived.Test.YtfodejhipnmgnaaUF1
namespace Go.Proofs.Ytfodejhipnmgnaa
open Go.RowKit
set_option linter.unusedVariables false
set_option linter.unusedSimpArgs false
/-- only by what clauses are watched is changed, and lists -/
structure Rw (u v : US) : Prop where
  lk : Lk u v
  lits : ∀ n, (v.cl.getD n default).lits = (u.cl.getD n default).lits
  nx : ∀ n, (v.cl.getD n default).nx = (u.cl.getD n default).nx
theorem Rw.refl (u : US) : Rw u u := ⟨Lk.refl u, fun _ => rfl, fun _ => rfl⟩
theorem Rw.trans {u v x : US} (h : Rw u v) (k : Rw v x) : Rw u x := ⟨h.lk.trans k.lk, fun n => (k.lits n).trans (h.lits n), fun n => (k.nx n).trans (h.nx n)⟩
structure Wo (u : US) : Prop where
  wt : Wt u
  ds : Dist u
  inr : ∀ n s, InR u (byU u n s)
  ws : u.ws.length = 2 * u.tr.length
  cl : u.cl.length ≤ 1048576
theorem Wo.lst {u : US} (h : Wo u) {x : Int} (hx : InR u x) : lstV x < u.ws.length := by rw [h.ws]; exact lstV_lt hx
theorem relink_rw (u : US) {n s : Nat} {x : Int} (hn : n < u.cl.length) : Rw u (relink u n s x) := by
  unfold relink
  split
  · exact Rw.refl u
  · exact Rw.trans ⟨leave_lk u n s, fun n' => (leaveU_lits u n s n').1, fun n' => (leaveU_lits u n s n').2⟩ ⟨join_lk _ n s x, fun n' => (join_lits (by rw [(leave_lk u n s).cl]; exact hn) n').1, fun n' => (join_lits (by rw [(leave_lk u n s).cl]; exact hn) n').2⟩
theorem relink_ok {u : US} (h : Wo u) {n s : Nat} {x : Int} (hn : n < u.cl.length) (hs : s < 2) (hx : InR u x) (hne : x = byU u n (1 - s) → x = 0) :
    RelOK u n s x ∧ Wo (relink u n s x) ∧ ∀ n' s', s' < 2 → byU (relink u n s x) n' s' = if n' = n ∧ s' = s then x else byU u n' s' := by
  have hrw := relink_rw u (s := s) (x := x) hn
  by_cases e : x = byU u n s
  · have hE : relink u n s x = u := if_pos e
    rw [hE]
    refine ⟨Or.inl e, h, fun n' s' _ => ?_⟩
    split
    · rename_i q; rw [q.1, q.2, e]
    · rfl
  · have hE : relink u n s x = joinU (leaveU u n s) n s x := if_neg e
    have lk := leave_lk u n s
    have hnl : n < (leaveU u n s).cl.length := by rw [lk.cl]; exact hn
    have hll : x ≠ 0 → lstV x < (leaveU u n s).ws.length := fun _ => by rw [lk.ws]; exact h.lst hx
    have hby : ∀ n' s', s' < 2 → byU (relink u n s x) n' s' = if n' = n ∧ s' = s then x else byU u n' s' := fun n' s' h2 => by
      rw [hE, join_by hnl hs n' s' h2, leaveU_by]
    refine ⟨Or.inr ⟨?_, hx.lk lk, ?_⟩, ⟨?_, ?_, ?_, ?_, ?_⟩, hby⟩
    · by_cases h0 : byU u n s = 0
      · exact Or.inl h0
      · obtain ⟨k, m, sm, hk, hr, hkl, hil, hm, hmC, _⟩ := h.wt.place h.ds hn hs h0
        exact Or.inr ⟨h.inr n s, k, m, hk, hkl, Nat.le_trans (h.wt.len h.ds _) h.cl, hm, hmC⟩
    · exact Nat.le_trans (leave_len (u := u) (n := n) (s := s) (lstV x)) (Nat.le_trans (h.wt.len h.ds _) h.cl)
    · rw [hE]; exact join_wt (leave_wt h.wt h.ds hn hs) hnl hs hll
    · intro n' q
      rw [hby n' 0 (by omega), hby n' 1 (by omega)] at q
      rw [hby n' 0 (by omega)]
      by_cases en : n' = n
      · subst en
        rcases Nat.lt_or_ge s 1 with a | a
        · obtain rfl : s = 0 := by omega
          rw [if_pos ⟨rfl, rfl⟩] at q ⊢
          rw [if_neg (fun c => by omega)] at q
          exact hne q
        · obtain rfl : s = 1 := by omega
          rw [if_neg (fun c => by omega)] at q ⊢
          rw [if_pos ⟨rfl, rfl⟩] at q
          rw [q]
          exact hne q.symm
      · rw [if_neg (fun c => en c.1)] at q ⊢
        rw [if_neg (fun c => en c.1)] at q
        exact h.ds n' q
    · intro n' s'
      rw [show InR (relink u n s x) = InR u from by unfold InR; rw [hrw.lk.tr]]
      rcases Nat.lt_or_ge s' 2 with a | a
      · rw [hby n' s' a]
        split
        · exact hx
        · exact h.inr n' s'
      · rw [show byU (relink u n s x) n' s' = byU (relink u n s x) n' 1 from by unfold byU CL.by'; rw [if_neg (by omega), if_neg (by omega)], hby n' 1 (by omega)]
        split
        · exact hx
        · exact h.inr n' 1
    · rw [hrw.lk.ws, hrw.lk.tr]; exact h.ws
    · rw [hrw.lk.cl]; exact h.cl
theorem watch_ok {u : US} (h : Wo u) {n : Nat} {x y : Int} (hn : n < u.cl.length) (hx : InR u x) (hy : InR u y) (hne : x = y → x = 0) :
    RelOK u n 0 (swapV u n x y).1 ∧ RelOK (relink u n 0 (swapV u n x y).1) n 1 (swapV u n x y).2 ∧ Wo (watchU u n x y) ∧ Rw u (watchU u n x y) ∧
      ((swapV u n x y = (x, y) ∨ swapV u n x y = (y, x)) ∧ ∀ n' s', s' < 2 → byU (watchU u n x y) n' s' = if n' = n then (if s' = 0 then (swapV u n x y).1 else (swapV u n x y).2) else byU u n' s') := by
  have hsw : swapV u n x y = (x, y) ∨ swapV u n x y = (y, x) := by unfold swapV; split <;> simp
  have key : ∃ p q, swapV u n x y = (p, q) ∧ InR u p ∧ InR u q ∧ (p = q → p = 0) ∧ (p = byU u n 1 → p = 0) := by
    unfold swapV
    by_cases c : x = (u.cl.getD n default).b1 ∨ y = (u.cl.getD n default).b0
    · rw [if_pos c]
      refine ⟨y, x, rfl, hy, hx, fun e => by have := hne e.symm; omega, fun e => ?_⟩
      have e1 : y = (u.cl.getD n default).b1 := e
      rcases c with c | c
      · have := hne (c.trans e1.symm); omega
      · have h1 := h.ds n (show (u.cl.getD n default).b0 = (u.cl.getD n default).b1 by rw [← c, ← e1])
        have h2 : (u.cl.getD n default).b0 = 0 := h1
        omega
    · rw [if_neg c]
      exact ⟨x, y, rfl, hx, hy, hne, fun e => absurd (Or.inl e) c⟩
  obtain ⟨p, q, hpq, hp, hq, hpq0, hpb⟩ := key
  unfold watchU
  rw [hpq]
  simp only
  obtain ⟨r1, w1, b1⟩ := relink_ok h (s := 0) (x := p) hn (by omega) hp hpb
  have rw1 := relink_rw u (s := 0) (x := p) hn
  have hn1 : n < (relink u n 0 p).cl.length := by rw [rw1.lk.cl]; exact hn
  obtain ⟨r2, w2, b2⟩ := relink_ok w1 (s := 1) (x := q) hn1 (by omega) (hq.lk rw1.lk) (fun e => by
    rw [show 1 - 1 = 0 from rfl, b1 n 0 (by omega), if_pos ⟨rfl, rfl⟩] at e
    have := hpq0 e.symm
    omega)
  refine ⟨r1, r2, w2, rw1.trans (relink_rw _ hn1), by rw [hpq] at hsw; exact hsw, fun n' s' h2 => ?_⟩
  rw [b2 n' s' h2]
  by_cases en : n' = n
  · subst en
    rw [if_pos rfl]
    by_cases e0 : s' = 0
    · subst e0; rw [if_pos rfl, if_neg (fun c => by omega), b1 n' 0 (by omega), if_pos ⟨rfl, rfl⟩]
    · obtain rfl : s' = 1 := by omega
      rw [if_pos ⟨rfl, rfl⟩, if_neg (show ¬ (1 = 0) by omega)]
  · rw [if_neg en, if_neg (fun c => en c.1), b1 n' s' h2, if_neg (fun c => en c.1)]
end Go.Proofs.Ytfodejhipnmgnaa
