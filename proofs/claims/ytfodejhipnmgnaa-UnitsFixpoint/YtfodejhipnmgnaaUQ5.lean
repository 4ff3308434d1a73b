/-
  units: the two best literals of a clause (pure).
-/
import Derived.Test.YtfodejhipnmgnaaUQ4
namespace Go.Proofs.Ytfodejhipnmgnaa
open Go.RowKit
set_option linter.unusedVariables false
set_option linter.unusedSimpArgs false
/-- a pair of literals that were offered: those that fall last -/
structure PI (u : US) (O : Int → Prop) (p : PR) : Prop where
  g0 : p.f0 = fallsV u p.l0
  g1 : p.f1 = fallsV u p.l1
  ne : p.l0 = p.l1 → p.l0 = 0
  le : p.f1 ≤ p.f0
  o0 : p.l0 = 0 ∨ O p.l0
  o1 : p.l1 = 0 ∨ O p.l1
  al : ∀ y, O y → y = p.l0 ∨ fallsV u y ≤ p.f1
theorem PI.offer {u : US} {O : Int → Prop} {p : PR} (h : PI u O p) (x : Int) : PI u (fun y => O y ∨ y = x) (p.offer x (fallsV u x)) := by
  have hle := h.le
  unfold PR.offer
  by_cases h1 : x = p.l0
  · rw [if_pos h1]
    exact ⟨h.g0, h.g1, h.ne, h.le, h.o0.imp_right Or.inl, h.o1.imp_right Or.inl, fun y hy => hy.elim (h.al y) fun e => Or.inl (e.trans h1)⟩
  · rw [if_neg h1]
    by_cases h2 : fallsV u x > p.f0
    · rw [if_pos h2]
      refine ⟨rfl, h.g0, fun e => absurd e h1, by show p.f0 ≤ fallsV u x; omega, Or.inr (Or.inr rfl), h.o0.imp_right Or.inl, fun y hy => ?_⟩
      rcases hy with hy | rfl
      · right
        show fallsV u y ≤ p.f0
        rcases h.al y hy with e | e
        · rw [e, ← h.g0]; exact Int.le_refl _
        · omega
      · exact Or.inl rfl
    · rw [if_neg h2]
      by_cases h3 : fallsV u x > p.f1
      · rw [if_pos h3]
        refine ⟨h.g0, rfl, fun e => absurd e.symm h1, by show fallsV u x ≤ p.f0; omega, h.o0.imp_right Or.inl, Or.inr (Or.inr rfl), fun y hy => ?_⟩
        rcases hy with hy | rfl
        · rcases h.al y hy with e | e
          · exact Or.inl e
          · right; show fallsV u y ≤ fallsV u x; omega
        · exact Or.inr (Int.le_refl _)
      · rw [if_neg h3]
        exact ⟨h.g0, h.g1, h.ne, h.le, h.o0.imp_right Or.inl, h.o1.imp_right Or.inl, fun y hy => hy.elim (h.al y) fun e => Or.inr (by rw [e]; omega)⟩
theorem PI.imp {u : US} {O O' : Int → Prop} {p : PR} (h : PI u O p) (k : ∀ y, O y ↔ O' y) : PI u O' p := by
  have e : O = O' := funext fun y => propext (k y)
  subst e
  exact h
theorem bestL_ok {u : US} {l : List Int} : ∀ (k nx : Nat) (O : Int → Prop) (p : PR), PI u O p → nx < l.length →
    ∃ O', PI u O' (bestL u l k nx p).1 ∧ (∀ y, O' y → O y ∨ y ∈ l) ∧ ((bestL u l k nx p).1.f1 = nev ∨ ∀ y, (O y ∨ ∃ j, j < k ∧ y = l.getD ((nx + j) % l.length) 0) → O' y) ∧ (bestL u l k nx p).2 < l.length
  | 0, nx, O, p, h, hn => ⟨O, h, fun y hy => Or.inl hy, Or.inr fun y hy => hy.elim id fun ⟨j, hj, _⟩ => absurd hj (by omega), hn⟩
  | k + 1, nx, O, p, h, hn => by
    by_cases hf : p.f1 = nev
    · rw [bestL_stop hf]
      exact ⟨O, h, fun y hy => Or.inl hy, Or.inl hf, hn⟩
    · rw [bestL_go hf]
      obtain ⟨O', h1, h2, h3, h4⟩ := bestL_ok k ((nx + 1) % l.length) _ _ (h.offer (l.getD nx 0)) (Nat.mod_lt _ (by omega))
      have hm : l.getD nx 0 ∈ l := by simp [List.getD, List.getElem?_eq_getElem hn]
      refine ⟨O', h1, fun y hy => ?_, h3.imp_right fun h3 y hy => ?_, h4⟩
      · rcases h2 y hy with (e | e) | e
        · exact Or.inl e
        · exact Or.inr (e ▸ hm)
        · exact Or.inr e
      · rcases hy with hy | ⟨j, hj, e⟩
        · exact h3 y (Or.inl (Or.inl hy))
        · cases j with
          | zero => exact h3 y (Or.inl (Or.inr (by rw [e, Nat.add_zero, Nat.mod_eq_of_lt hn])))
          | succ j => exact h3 y (Or.inr ⟨j, by omega, by rw [e, Nat.mod_add_mod, show nx + (j + 1) = nx + 1 + j by omega]⟩)
/-- what best tells of a clause -/
structure Bst (u : US) (l : List Int) (p : PR) : Prop where
  g0 : p.f0 = fallsV u p.l0
  g1 : p.f1 = fallsV u p.l1
  ne : p.l0 = p.l1 → p.l0 = 0
  le : p.f1 ≤ p.f0
  m0 : p.l0 = 0 ∨ p.l0 ∈ l
  m1 : p.l1 = 0 ∨ p.l1 ∈ l
  al : p.f1 = nev ∨ ∀ y ∈ l, y = p.l0 ∨ fallsV u y ≤ p.f1
theorem best_ok {u : US} {n nx : Nat} (hnl : 0 < (clU u n).lits.length → nx < (clU u n).lits.length) (hb : ∀ s, byU u n s = 0 ∨ byU u n s ∈ (clU u n).lits) :
    Bst u (clU u n).lits (bestR u n nx).1 ∧ (0 < (clU u n).lits.length → (bestR u n nx).2 < (clU u n).lits.length) := by
  have h0 : PI u (fun _ => False) p0 := ⟨(falls_zero u).symm, (falls_zero u).symm, fun _ => rfl, Int.le_refl _, Or.inl rfl, Or.inl rfl, fun y hy => hy.elim⟩
  have h2 := (h0.offer (byU u n 0)).offer (byU u n 1)
  change PI u _ (best0 u n) at h2
  have hO : ∀ y, ((False ∨ y = byU u n 0) ∨ y = byU u n 1) → y = 0 ∨ y ∈ (clU u n).lits := fun y hy => by
    rcases hy with (hy | rfl) | rfl
    · exact hy.elim
    · exact hb 0
    · exact hb 1
  unfold bestR
  change Bst u (clU u n).lits (bestL u (clU u n).lits (clU u n).lits.length nx (best0 u n)).1 ∧ (0 < (clU u n).lits.length → (bestL u (clU u n).lits (clU u n).lits.length nx (best0 u n)).2 < (clU u n).lits.length)
  obtain ⟨l, hl⟩ : ∃ l, (clU u n).lits = l := ⟨_, rfl⟩
  rw [hl] at hnl hO ⊢
  by_cases hz : 0 < l.length
  · obtain ⟨O', a1, a2, a3, a4⟩ := bestL_ok l.length nx _ _ h2 (hnl hz)
    have hm : ∀ y, O' y → y = 0 ∨ y ∈ l := fun y hy => (a2 y hy).elim (hO y) Or.inr
    refine ⟨⟨a1.g0, a1.g1, a1.ne, a1.le, a1.o0.elim Or.inl (hm _), a1.o1.elim Or.inl (hm _), a3.imp_right fun a3 y hy => a1.al y (a3 y (Or.inr ?_))⟩, fun _ => a4⟩
    obtain ⟨i, hi, rfl⟩ := List.getElem_of_mem hy
    have hx := hnl hz
    rcases Nat.lt_or_ge i nx with c | c
    · refine ⟨i + l.length - nx, by omega, ?_⟩
      rw [show nx + (i + l.length - nx) = i + l.length by omega, Nat.add_mod_right, Nat.mod_eq_of_lt hi]
      simp [List.getD, List.getElem?_eq_getElem hi]
    · refine ⟨i - nx, by omega, ?_⟩
      rw [show nx + (i - nx) = i by omega, Nat.mod_eq_of_lt hi]
      simp [List.getD, List.getElem?_eq_getElem hi]
  · obtain rfl : l = [] := List.length_eq_zero_iff.1 (by omega)
    have e : ∀ y, ((False ∨ y = byU u n 0) ∨ y = byU u n 1) → y = 0 := fun y hy => (hO y hy).elim id fun h => absurd h (by simp)
    exact ⟨⟨h2.g0, h2.g1, h2.ne, h2.le, Or.inl (h2.o0.elim id (e _)), Or.inl (h2.o1.elim id (e _)), Or.inr fun y hy => absurd hy (by simp)⟩, fun h => absurd h (by simp)⟩
theorem falls_nn {u : US} (hr : Rd u) (z : Int) : 0 ≤ fallsV u z ∧ fallsV u z ≤ nev := by
  have h1 := hr.nM
  have h2 := hr.tv z
  unfold fallsV nev
  split
  · omega
  · split <;> omega
theorem falls_neg {u : US} (hr : Rd u) {z : Int} (hz : z ≠ 0) : fallsV u z ≠ nev ↔ trv u z < 0 := by
  have h1 := hr.nM
  have h2 := hr.tv z
  unfold fallsV nev
  rw [if_neg hz]
  split <;> omega
end Go.Proofs.Ytfodejhipnmgnaa
