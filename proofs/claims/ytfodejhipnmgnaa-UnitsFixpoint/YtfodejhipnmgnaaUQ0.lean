/-
  units: the lists of watchers (pure).
-/
import Derived.Test.YtfodejhipnmgnaaUE3
namespace Go.Proofs.Ytfodejhipnmgnaa
open Go.RowKit
set_option linter.unusedVariables false
set_option linter.unusedSimpArgs false
theorem lst_inj {x y : Int} (h : lstV x = lstV y) : x = y := by unfold lstV at h; split at h <;> split at h <;> omega
theorem getD_set' {α : Type} (l : List α) (i j : Nat) (x d : α) : (l.set i x).getD j d = if j = i ∧ i < l.length then x else l.getD j d := by
  simp only [List.getD, List.getElem?_set]
  by_cases h : i = j
  · subst h
    by_cases h2 : i < l.length
    · simp [h2]
    · simp [h2, List.getElem?_eq_none (Nat.le_of_not_lt h2)]
  · have h3 : ¬ j = i := fun e => h e.symm
    simp [h, h3]
def byU (u : US) (n s : Nat) : Int := (u.cl.getD n default).by' s
def atU (u : US) (n s : Nat) : Int := (u.cl.getD n default).at' s
def lsU (u : US) (i : Nat) : List Int := u.ws.getD i []
/-- every clause stands where it says, but for X; and every list has those alone -/
structure WtX (u : US) (X : Nat → Nat → Prop) : Prop where
  f : ∀ n s, n < u.cl.length → s < 2 → ¬ X n s → byU u n s ≠ 0 → ∃ k : Nat, atU u n s = k ∧ (lsU u (lstV (byU u n s)))[k]? = some (n : Int)
  b : ∀ (i k : Nat) (z : Int), (lsU u i)[k]? = some z → ∃ n s : Nat, z = n ∧ n < u.cl.length ∧ s < 2 ∧ ¬ X n s ∧ byU u n s ≠ 0 ∧ lstV (byU u n s) = i ∧ atU u n s = k
def Wt (u : US) : Prop := WtX u fun _ _ => False
def Dist (u : US) : Prop := ∀ n, byU u n 0 = byU u n 1 → byU u n 0 = 0
theorem Dist.side {u : US} (h : Dist u) {n s t : Nat} {x : Int} (hs : s < 2) (ht : t < 2) (h1 : byU u n s = x) (h2 : byU u n t = x) (hx : x ≠ 0) : s = t := by
  have := h n
  rcases Nat.lt_or_ge s 1 with a | a <;> rcases Nat.lt_or_ge t 1 with c | c
  · omega
  · obtain rfl : s = 0 := by omega
    obtain rfl : t = 1 := by omega
    exact absurd (h1.symm.trans (this (h1.trans h2.symm))) hx
  · obtain rfl : s = 1 := by omega
    obtain rfl : t = 0 := by omega
    exact absurd (h2.symm.trans (this (h2.trans h1.symm))) hx
  · omega
section leave
variable {u : US} {x : Int} {k m : Nat}
theorem side_lt (c : CL) (x : Int) : c.side x < 2 := by unfold CL.side; split <;> omega
theorem leaveV_by (n s : Nat) : byU (leaveV u x k) n s = byU u n s := by
  unfold byU leaveV
  simp only [getD_set']
  split
  · rename_i h; rw [h.1]; unfold CL.by' CL.setA; split <;> split <;> rfl
  · rfl
theorem leaveV_at (hm : (lsU u (lstV x)).getD ((lsU u (lstV x)).length - 1) 0 = m) (hmC : m < u.cl.length) (n s : Nat) (hs : s < 2) : atU (leaveV u x k) n s = if n = m ∧ s = (u.cl.getD m default).side x then (k : Int) else atU u n s := by
  have hm' : (u.ws.getD (lstV x) []).getD ((u.ws.getD (lstV x) []).length - 1) 0 = m := hm
  unfold atU leaveV
  simp only [hm', getD_set', Int.toNat_natCast]
  by_cases h : n = m
  · subst h
    simp only [hmC, and_self, if_true, true_and]
    have := side_lt (u.cl.getD n default) x
    generalize (u.cl.getD n default).side x = t at *
    unfold CL.at' CL.setA
    by_cases h1 : t = 0 <;> by_cases h2 : s = 0 <;> simp [h1, h2] <;> try omega


  · simp [h]
theorem leaveV_ls (hm : (lsU u (lstV x)).getD ((lsU u (lstV x)).length - 1) 0 = m) (hl : lstV x < u.ws.length) (j : Nat) : lsU (leaveV u x k) j = if j = lstV x then ((lsU u (lstV x)).set k m).take ((lsU u (lstV x)).length - 1) else lsU u j := by
  have hm' : (u.ws.getD (lstV x) []).getD ((u.ws.getD (lstV x) []).length - 1) 0 = m := hm
  unfold lsU leaveV
  simp only [hm', getD_set', hl, and_true]
end leave
theorem by_zero {u : US} {n s : Nat} (h : u.cl.length ≤ n) : byU u n s = 0 := by
  unfold byU
  rw [show u.cl.getD n default = default from by simp [List.getD, List.getElem?_eq_none h]]
  unfold CL.by'
  split <;> rfl
theorem ls_lt {u : US} {i k : Nat} {z : Int} (h : (lsU u i)[k]? = some z) : i < u.ws.length := by
  rcases Nat.lt_or_ge i u.ws.length with h1 | h1
  · exact h1
  · unfold lsU at h
    rw [show u.ws.getD i [] = [] from by simp [List.getD, List.getElem?_eq_none h1]] at h
    simp at h
/-- where a clause stands in a list: what leave must know -/
theorem Wt.place {u : US} (h : Wt u) (hd : Dist u) {n s : Nat} (hn : n < u.cl.length) (hs : s < 2) (hx : byU u n s ≠ 0) :
    ∃ k m sm : Nat, atU u n s = k ∧ (lsU u (lstV (byU u n s)))[k]? = some (n : Int) ∧ k < (lsU u (lstV (byU u n s))).length ∧ lstV (byU u n s) < u.ws.length ∧ (lsU u (lstV (byU u n s))).getD ((lsU u (lstV (byU u n s))).length - 1) 0 = m ∧ m < u.cl.length ∧ sm < 2 ∧
      byU u m sm = byU u n s ∧ atU u m sm = ((lsU u (lstV (byU u n s))).length - 1 : Nat) ∧ (u.cl.getD m default).side (byU u n s) = sm := by
  obtain ⟨k, hk, hr⟩ := h.f n s hn hs (fun e => e) hx
  have hkl := (List.getElem?_eq_some_iff.1 hr).1
  have hlast : (lsU u (lstV (byU u n s)))[(lsU u (lstV (byU u n s))).length - 1]? = some ((lsU u (lstV (byU u n s)))[(lsU u (lstV (byU u n s))).length - 1]'(by omega)) := List.getElem?_eq_getElem (by omega)
  obtain ⟨m, sm, e1, e2, e3, _, e5, e6, e7⟩ := h.b _ _ _ hlast
  have e6' := lst_inj e6
  refine ⟨k, m, sm, hk, hr, hkl, ls_lt hr, ?_, e2, e3, e6', e7, ?_⟩
  · rw [← e1]; simp [List.getD, hlast]
  · unfold CL.side
    by_cases h0 : (u.cl.getD m default).b0 = byU u n s
    · rw [if_pos h0]
      exact hd.side (u := u) (n := m) (x := byU u n s) (by omega) e3 h0 e6' hx
    · rw [if_neg h0]
      have : sm ≠ 0 := fun e => h0 (by rw [e] at e6'; exact e6')
      omega
theorem leave_wt {u : US} {n s : Nat} (h : Wt u) (hd : Dist u) (hn : n < u.cl.length) (hs : s < 2) : WtX (leaveU u n s) fun n' s' => n' = n ∧ s' = s := by
  by_cases hx : byU u n s = 0
  · rw [show leaveU u n s = u from if_pos hx]
    refine ⟨fun n' s' h1 h2 _ h4 => h.f n' s' h1 h2 (fun e => e) h4, fun i k z hz => ?_⟩
    obtain ⟨n', s', e1, e2, e3, _, e5, e6⟩ := h.b i k z hz
    exact ⟨n', s', e1, e2, e3, fun e => e5 (by rw [e.1, e.2]; exact hx), e5, e6⟩
  · obtain ⟨k, m, sm, hk, hr, hkl, hil, hm, hmC, hsm, hbm, ham, hsd⟩ := h.place hd hn hs hx
    have hL : leaveU u n s = leaveV u (byU u n s) k := by
      unfold leaveU
      rw [if_neg (show ¬ (u.cl.getD n default).by' s = 0 from hx), show (u.cl.getD n default).at' s = (k : Int) from hk, Int.toNat_natCast]
      rfl
    rw [hL]
    obtain ⟨x, hxe⟩ : ∃ x, byU u n s = x := ⟨_, rfl⟩
    rw [hxe] at hr hkl hil hm hbm ham hsd hx ⊢
    have hcl : (leaveV u x k).cl.length = u.cl.length := by simp [leaveV]
    have hat := fun n' s' h2 => leaveV_at (u := u) (x := x) (k := k) hm hmC n' s' h2
    have hls := fun j => leaveV_ls (u := u) (x := x) (k := k) hm hil j
    rw [hsd] at hat
    obtain ⟨r, hre⟩ : ∃ r, lsU u (lstV x) = r := ⟨_, rfl⟩
    rw [hre] at hr hkl hm ham hls
    have ht : ∀ k', k' < r.length - 1 → ((r.set k m).take (r.length - 1))[k']? = if k = k' then some (m : Int) else r[k']? := fun k' h1 => by
      rw [List.getElem?_take_of_lt h1, List.getElem?_set]
      by_cases e : k = k'
      · rw [if_pos e, if_pos e, if_pos (by omega)]
      · rw [if_neg e, if_neg e]
    refine ⟨fun n' s' h1 h2 h3 h4 => ?_, fun i k' z hz => ?_⟩
    · rw [hcl] at h1
      rw [leaveV_by] at h4 ⊢
      obtain ⟨k', hk', hr'⟩ := h.f n' s' h1 h2 (fun e => e) h4
      rw [hat n' s' h2, hls]
      by_cases hi : lstV (byU u n' s') = lstV x
      · have hbx := lst_inj hi
        rw [hi, if_pos rfl]
        rw [hi, hre] at hr'
        have hk'l := (List.getElem?_eq_some_iff.1 hr').1
        by_cases hnm : n' = m ∧ s' = sm
        · rw [if_pos hnm]
          obtain ⟨rfl, rfl⟩ := hnm
          have hkm : k ≠ r.length - 1 := fun e => by
            have : k' = r.length - 1 := by have := hk'.symm.trans ham; omega
            rw [this, ← e, hr] at hr'
            have e2 : n = n' := by injection hr' with e2; omega
            subst e2
            exact h3 ⟨rfl, hd.side h2 hs hbx hxe hx⟩
          exact ⟨k, rfl, by rw [ht k (by omega), if_pos rfl]⟩
        · rw [if_neg hnm]
          have hkk : k ≠ k' := fun e => by
            rw [← e, hr] at hr'
            have e2 : n = n' := by injection hr' with e2; omega
            subst e2
            exact h3 ⟨rfl, hd.side h2 hs hbx hxe hx⟩
          have hkL : k' ≠ r.length - 1 := fun e => by
            have h9 : r[r.length - 1]? = some (m : Int) := by rw [← hm]; simp [List.getD, List.getElem?_eq_getElem (show r.length - 1 < r.length by omega)]
            rw [e, h9] at hr'
            have e2 : m = n' := by injection hr' with e2; omega
            subst e2
            exact hnm ⟨rfl, hd.side h2 hsm hbx hbm hx⟩
          exact ⟨k', hk', by rw [ht k' (by omega), if_neg hkk]; exact hr'⟩
      · rw [if_neg hi, if_neg (fun e => hi (by rw [e.1, e.2, hbm]))]
        exact ⟨k', hk', hr'⟩
    · rw [hls] at hz
      by_cases hi : i = lstV x
      · rw [if_pos hi] at hz
        have hk'l : k' < r.length - 1 := by
          have := (List.getElem?_eq_some_iff.1 hz).1
          rw [List.length_take] at this
          omega
        rw [ht k' hk'l] at hz
        by_cases hkk : k = k'
        · rw [if_pos hkk] at hz
          refine ⟨m, sm, (Option.some.inj hz).symm, by rw [hcl]; exact hmC, hsm, fun e => ?_, by rw [leaveV_by, hbm]; exact hx, by rw [leaveV_by, hbm, hi], by rw [hat m sm hsm, if_pos ⟨rfl, rfl⟩, hkk]⟩
          rw [e.1, e.2, hk] at ham
          omega
        · rw [if_neg hkk] at hz
          obtain ⟨n', s', e1, e2, e3, _, e5, e6, e7⟩ := h.b i k' z (by rw [hi, hre]; exact hz)
          refine ⟨n', s', e1, by rw [hcl]; exact e2, e3, fun e => ?_, by rw [leaveV_by]; exact e5, by rw [leaveV_by]; exact e6, ?_⟩
          · rw [e.1, e.2, hk] at e7; omega
          · rw [hat n' s' e3, if_neg (fun e => ?_)]
            · exact e7
            · rw [e.1, e.2, ham] at e7; omega
      · rw [if_neg hi] at hz
        obtain ⟨n', s', e1, e2, e3, _, e5, e6, e7⟩ := h.b i k' z hz
        refine ⟨n', s', e1, by rw [hcl]; exact e2, e3, fun e => ?_, by rw [leaveV_by]; exact e5, by rw [leaveV_by]; exact e6, ?_⟩
        · rw [e.1, e.2, hxe] at e6; exact hi e6.symm
        · rw [hat n' s' e3, if_neg (fun e => ?_)]
          · exact e7
          · rw [e.1, e.2, hbm] at e6; exact hi e6.symm
end Go.Proofs.Ytfodejhipnmgnaa
