/-
  units: the lists of watchers behind join, relink, watch (pure).
-/
import Derived.Test.YtfodejhipnmgnaaUQ0
namespace Go.Proofs.Ytfodejhipnmgnaa
open Go.RowKit
set_option linter.unusedVariables false
set_option linter.unusedSimpArgs false
section join
variable {u : US} {n s : Nat} {x : Int}
theorem join_by (hn : n < u.cl.length) (hs : s < 2) (n' s' : Nat) (hs' : s' < 2) : byU (joinU u n s x) n' s' = if n' = n ∧ s' = s then x else byU u n' s' := by
  have e : ∀ c : CL, ∀ z y : Int, True := fun _ _ _ => trivial
  unfold byU joinU
  by_cases h0 : s = 0
  · subst h0
    rw [if_pos rfl]
    unfold joinU0 joinB0 joinA0
    by_cases hx : x = 0
    · subst hx
      rw [if_pos rfl]
      simp only [getD_set']
      by_cases h : n' = n
      · subst h
        rw [if_pos ⟨rfl, hn⟩]
        unfold CL.by'
        by_cases h2 : s' = 0 <;> simp [h2]
      · rw [if_neg (fun e => h e.1), if_neg (fun e => h e.1)]
    · rw [if_neg hx]
      simp only [getD_set', List.length_set]
      by_cases h : n' = n
      · subst h
        simp only [hn, and_self, if_true]
        unfold CL.by'
        by_cases h2 : s' = 0 <;> simp [h2]
      · simp [h]
  · obtain rfl : s = 1 := by omega
    rw [if_neg (by omega)]
    unfold joinU1 joinB1 joinA1
    by_cases hx : x = 0
    · subst hx
      rw [if_pos rfl]
      simp only [getD_set']
      by_cases h : n' = n
      · subst h
        rw [if_pos ⟨rfl, hn⟩]
        unfold CL.by'
        by_cases h2 : s' = 0
        · simp [h2]
        · have : s' = 1 := by omega
          simp [this]
      · rw [if_neg (fun e => h e.1), if_neg (fun e => h e.1)]
    · rw [if_neg hx]
      simp only [getD_set', List.length_set]
      by_cases h : n' = n
      · subst h
        simp only [hn, and_self, if_true]
        unfold CL.by'
        by_cases h2 : s' = 0
        · simp [h2]
        · have : s' = 1 := by omega
          simp [this]
      · simp [h]
theorem join_at (hn : n < u.cl.length) (hs : s < 2) (n' s' : Nat) (hs' : s' < 2) : atU (joinU u n s x) n' s' = if n' = n ∧ s' = s ∧ x ≠ 0 then ((lsU u (lstV x)).length : Int) else atU u n' s' := by
  unfold atU joinU lsU
  by_cases h0 : s = 0
  · subst h0
    rw [if_pos rfl]
    unfold joinU0 joinB0 joinA0
    by_cases hx : x = 0
    · subst hx
      rw [if_pos rfl]
      simp only [getD_set']
      by_cases h : n' = n
      · subst h
        rw [if_pos ⟨rfl, hn⟩]
        unfold CL.at'
        by_cases h2 : s' = 0 <;> simp [h2]
      · rw [if_neg (fun e => h e.1), if_neg (fun e => h e.1)]
    · rw [if_neg hx]
      simp only [getD_set', List.length_set]
      by_cases h : n' = n
      · subst h
        simp only [hn, and_self, if_true]
        unfold CL.at'
        by_cases h2 : s' = 0 <;> simp [h2, hx]
      · simp [h]
  · obtain rfl : s = 1 := by omega
    rw [if_neg (by omega)]
    unfold joinU1 joinB1 joinA1
    by_cases hx : x = 0
    · subst hx
      rw [if_pos rfl]
      simp only [getD_set']
      by_cases h : n' = n
      · subst h
        rw [if_pos ⟨rfl, hn⟩]
        unfold CL.at'
        by_cases h2 : s' = 0 <;> simp [h2]
      · rw [if_neg (fun e => h e.1), if_neg (fun e => h e.1)]
    · rw [if_neg hx]
      simp only [getD_set', List.length_set]
      by_cases h : n' = n
      · subst h
        simp only [hn, and_self, if_true]
        unfold CL.at'
        by_cases h2 : s' = 0
        · simp [h2]
        · have : s' = 1 := by omega
          simp [this, hx]
      · simp [h]
theorem join_ls (hl : x ≠ 0 → lstV x < u.ws.length) (j : Nat) : lsU (joinU u n s x) j = if j = lstV x ∧ x ≠ 0 then lsU u (lstV x) ++ [(n : Int)] else lsU u j := by
  unfold lsU joinU
  by_cases hx : x = 0
  · subst hx
    split <;> simp [joinU0, joinU1, joinA0, joinA1]
  · have hl' := hl hx
    split
    · unfold joinU0
      rw [if_neg hx]
      show (u.ws.set (lstV x) _).getD j [] = _
      rw [getD_set']
      simp only [hl', and_true, hx, ne_eq, not_false_eq_true]
    · unfold joinU1
      rw [if_neg hx]
      show (u.ws.set (lstV x) _).getD j [] = _
      rw [getD_set']
      simp only [hl', and_true, hx, ne_eq, not_false_eq_true]
/-- what is in a clause but by what it is watched, and its places -/
theorem join_lits (hn : n < u.cl.length) (n' : Nat) : ((joinU u n s x).cl.getD n' default).lits = (u.cl.getD n' default).lits ∧ ((joinU u n s x).cl.getD n' default).nx = (u.cl.getD n' default).nx := by
  unfold joinU
  by_cases h : n' = n
  · subst h
    split <;> ((first | unfold joinU0 joinB0 joinA0 | unfold joinU1 joinB1 joinA1); split <;> simp only [getD_set', List.length_set, hn, and_self, if_true])
  · split <;> ((first | unfold joinU0 joinB0 joinA0 | unfold joinU1 joinB1 joinA1); split <;> simp only [getD_set', List.length_set, h, false_and, if_false, and_self])
end join
theorem join_wt {u : US} {n s : Nat} {x : Int} (h : WtX u fun n' s' => n' = n ∧ s' = s) (hn : n < u.cl.length) (hs : s < 2) (hl : x ≠ 0 → lstV x < u.ws.length) : Wt (joinU u n s x) := by
  have hcl : (joinU u n s x).cl.length = u.cl.length := (join_lk u n s x).cl
  have hby := fun n' s' h2 => join_by (x := x) hn hs n' s' h2
  have hat := fun n' s' h2 => join_at (x := x) hn hs n' s' h2
  have hls := fun j => join_ls (n := n) (s := s) hl j
  refine ⟨fun n' s' h1 h2 _ h4 => ?_, fun i k z hz => ?_⟩
  · rw [hcl] at h1
    rw [hby n' s' h2] at h4 ⊢
    rw [hat n' s' h2, hls]
    by_cases e : n' = n ∧ s' = s
    · rw [if_pos e] at h4 ⊢
      rw [if_pos ⟨e.1, e.2, h4⟩, if_pos ⟨rfl, h4⟩]
      exact ⟨_, rfl, by rw [e.1]; simp⟩
    · rw [if_neg e] at h4 ⊢
      rw [if_neg (fun q => e ⟨q.1, q.2.1⟩)]
      obtain ⟨k, hk, hr⟩ := h.f n' s' h1 h2 e h4
      refine ⟨k, hk, ?_⟩
      split
      · rename_i q
        rw [q.1] at hr
        rw [List.getElem?_append_left (List.getElem?_eq_some_iff.1 hr).1]
        exact hr
      · exact hr
  · rw [hls] at hz
    by_cases q : i = lstV x ∧ x ≠ 0
    · rw [if_pos q] at hz
      rcases Nat.lt_or_ge k (lsU u (lstV x)).length with hk | hk
      · rw [List.getElem?_append_left hk] at hz
        obtain ⟨n', s', e1, e2, e3, e4, e5, e6, e7⟩ := h.b _ k z hz
        exact ⟨n', s', e1, by rw [hcl]; exact e2, e3, fun e => e, by rw [hby n' s' e3, if_neg e4]; exact e5, by rw [hby n' s' e3, if_neg e4, q.1]; exact e6, by rw [hat n' s' e3, if_neg (fun p => e4 ⟨p.1, p.2.1⟩)]; exact e7⟩
      · rw [List.getElem?_append_right hk] at hz
        obtain ⟨hk2, hz2⟩ := List.getElem?_eq_some_iff.1 hz
        have hk3 : k = (lsU u (lstV x)).length := by simp at hk2; omega
        simp at hz2
        exact ⟨n, s, hz2.symm, by rw [hcl]; exact hn, hs, fun e => e, by rw [hby n s hs, if_pos ⟨rfl, rfl⟩]; exact q.2, by rw [hby n s hs, if_pos ⟨rfl, rfl⟩, q.1], by rw [hat n s hs, if_pos ⟨rfl, rfl, q.2⟩, hk3]⟩
    · rw [if_neg q] at hz
      obtain ⟨n', s', e1, e2, e3, e4, e5, e6, e7⟩ := h.b _ k z hz
      exact ⟨n', s', e1, by rw [hcl]; exact e2, e3, fun e => e, by rw [hby n' s' e3, if_neg e4]; exact e5, by rw [hby n' s' e3, if_neg e4]; exact e6, by rw [hat n' s' e3, if_neg (fun p => e4 ⟨p.1, p.2.1⟩)]; exact e7⟩
theorem leaveU_by (u : US) (n s n' s' : Nat) : byU (leaveU u n s) n' s' = byU u n' s' := by
  unfold leaveU
  split
  · rfl
  · exact leaveV_by _ _
theorem leaveU_lits (u : US) (n s n' : Nat) : ((leaveU u n s).cl.getD n' default).lits = (u.cl.getD n' default).lits ∧ ((leaveU u n s).cl.getD n' default).nx = (u.cl.getD n' default).nx := by
  unfold leaveU
  split
  · exact ⟨rfl, rfl⟩
  · unfold leaveV
    simp only [getD_set']
    split
    · rename_i h; rw [h.1]; unfold CL.setA; split <;> exact ⟨rfl, rfl⟩
    · exact ⟨rfl, rfl⟩
/-- lists are as long as there are clauses at most -/
theorem nodup_le : ∀ (N : Nat) (l : List Int), l.Nodup → (∀ z ∈ l, 0 ≤ z ∧ z < N) → l.length ≤ N
  | 0, l, _, h => by
    cases l with
    | nil => simp
    | cons a r => have := h a (by simp); omega
  | N + 1, l, hn, h => by
    by_cases hm : (N : Int) ∈ l
    · have h1 := nodup_le N (l.erase (N : Int)) (hn.erase _) fun z hz => by
        have h2 := (hn.mem_erase_iff).1 hz
        have h3 := h z h2.2
        have h4 := h2.1
        omega
      rw [List.length_erase_of_mem hm] at h1
      omega
    · have := nodup_le N l hn fun z hz => by
        have h3 := h z hz
        have : z ≠ N := fun e => hm (by rw [← e]; exact hz)
        omega
      omega
theorem Wt.nodup {u : US} (h : Wt u) (hd : Dist u) (i : Nat) : (lsU u i).Nodup := by
  rw [List.Nodup, List.pairwise_iff_getElem]
  intro a c ha hc hac e
  have hz : (lsU u i)[c]? = some ((lsU u i)[c]) := List.getElem?_eq_getElem hc
  have hy : (lsU u i)[a]? = some ((lsU u i)[c]) := by rw [List.getElem?_eq_getElem ha, e]
  obtain ⟨n, s, e1, e2, e3, _, e5, e6, e7⟩ := h.b i c _ hz
  obtain ⟨n', s', f1, f2, f3, _, f5, f6, f7⟩ := h.b i a _ hy
  have hnn : n' = n := by omega
  subst hnn
  have hss := hd.side f3 e3 (lst_inj (f6.trans e6.symm)) rfl e5
  rw [hss, e7] at f7
  omega
theorem Wt.len {u : US} (h : Wt u) (hd : Dist u) (i : Nat) : (lsU u i).length ≤ u.cl.length := nodup_le _ _ (h.nodup hd i) fun z hz => by
  obtain ⟨k, hk, rfl⟩ := List.getElem_of_mem hz
  obtain ⟨n, s, e1, e2, _⟩ := h.b i k _ (List.getElem?_eq_getElem hk)
  omega
theorem leave_len {u : US} {n s : Nat} (j : Nat) : (lsU (leaveU u n s) j).length ≤ (lsU u j).length := by
  unfold leaveU
  split
  · exact Nat.le_refl _
  · unfold lsU leaveV
    simp only [getD_set']
    split
    · rename_i h; rw [h.1]; simp
    · exact Nat.le_refl _
end Go.Proofs.Ytfodejhipnmgnaa
