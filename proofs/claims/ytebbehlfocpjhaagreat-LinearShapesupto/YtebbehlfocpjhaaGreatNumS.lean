import Derived.Test.YtebbehlfocpjhaaGreatWN10
set_option linter.unusedSimpArgs false
namespace Go.Proofs.YtebbehlfocpjhaaGreat
set_option linter.unusedVariables false
theorem wts_part (P : Int × Rat → Bool) : ∀ (l : Fo), wts (l.filter P) + wts (l.filter fun p => !P p) = wts l
  | [] => rfl
  | p :: l => by
    have ih := wts_part P l
    cases h : P p
    · rw [List.filter_cons_of_neg (by rw [h]; simp), List.filter_cons_of_pos (by rw [h]; rfl)]
      simp only [wts]
      omega
    · rw [List.filter_cons_of_pos h, List.filter_cons_of_neg (by rw [h]; simp)]
      simp only [wts]
      omega
theorem co_only (x : Int) : ∀ (l : Fo), co x (l.filter fun p => p.1 == x) = co x l
  | [] => rfl
  | p :: l => by
    have ih := co_only x l
    by_cases h : p.1 = x
    · rw [List.filter_cons_of_pos (by simp [h])]
      simp only [co, ih]
    · rw [List.filter_cons_of_neg (by simp [h])]
      simp only [co, ih]
      rw [if_neg h, Rat.zero_add]
theorem wts_vars : ∀ (X : List Int) (l : Fo), X.Pairwise (· < ·) → (X.map fun x => wts (l.filter fun p => p.1 == x)).sum ≤ wts l
  | [], l, _ => Nat.zero_le _
  | x :: X, l, h => by
    have h1 := (List.pairwise_cons.1 h).1
    have ih := wts_vars X (l.filter fun p => !(p.1 == x)) (List.pairwise_cons.1 h).2
    have hp := wts_part (fun p => p.1 == x) l
    have e : (X.map fun y => wts ((l.filter fun p => !(p.1 == x)).filter fun p => p.1 == y)) = X.map fun y => wts (l.filter fun p => p.1 == y) := by
      refine List.map_congr_left fun y hy => ?_
      have hxy := h1 y hy
      congr 1
      rw [List.filter_filter]
      refine List.filter_congr fun p _ => ?_
      by_cases hpy : p.1 = y
      · have : ¬ y = x := by omega
        simp [hpy, this]
      · simp [hpy]
    rw [e] at ih
    simp only [List.map_cons, List.sum_cons]
    omega
theorem sum_le {α : Type} (f g : α → Nat) : ∀ (l : List α), (∀ p ∈ l, f p ≤ 2 * g p + 3) → (l.map f).sum ≤ 2 * (l.map g).sum + 3 * l.length
  | [], _ => Nat.le_refl _
  | p :: l, h => by
    have h1 := sum_le f g l fun q hq => h q (List.mem_cons_of_mem _ hq)
    have h2 := h p List.mem_cons_self
    simp only [List.map_cons, List.sum_cons, List.length_cons]
    omega
theorem wts_sum : ∀ (l : Fo), wts l = (l.map fun p => wt p.2).sum
  | [] => rfl
  | p :: l => by simp only [wts, List.map_cons, List.sum_cons, wts_sum l]
theorem wts_nfm (l : Fo) : wts (nfm l) ≤ 2 * wts l + 3 * (nfm l).length := by
  have hn := nfm_nrm l
  have h1 : ∀ p ∈ nfm l, wt p.2 ≤ 2 * wts (l.filter fun q => q.1 == p.1) + 3 := fun p hp => by
    have e := hn.co_mem hp
    rw [nfm_co, ← co_only] at e
    have h := co_sz p.1 (l.filter fun q => q.1 == p.1)
    rw [e] at h
    have h2 := h.1
    have h3 := h.2
    unfold wt
    omega
  have h2 := sum_le (fun p : Int × Rat => wt p.2) (fun p => wts (l.filter fun q => q.1 == p.1)) (nfm l) h1
  have h3 := wts_vars ((nfm l).map (·.1)) l (by rw [List.pairwise_map]; exact hn.1)
  rw [List.map_map] at h3
  rw [wts_sum]
  have e : ((nfm l).map ((fun x => wts (l.filter fun p => p.1 == x)) ∘ fun x => x.1)) = (nfm l).map fun p => wts (l.filter fun q => q.1 == p.1) := rfl
  rw [e] at h3
  omega
end Go.Proofs.YtebbehlfocpjhaaGreat
