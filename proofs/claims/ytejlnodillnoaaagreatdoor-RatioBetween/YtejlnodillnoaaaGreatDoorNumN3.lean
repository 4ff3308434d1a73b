import Derived.Test.YtejlnodillnoaaaGreatDoorNumN2
set_option linter.unusedSimpArgs false
namespace Go.Proofs.YtejlnodillnoaaaGreatDoor
set_option linter.unusedVariables false
theorem sbl_pos : ∀ (n : Nat) (a b c d : Int), Sb a b c d → sbm a b c d < n → (∀ x ∈ sbl n a b c d, 0 ≤ x) ∧ (∀ x ∈ (sbl n a b c d).tail, 0 < x) ∧ (b ≤ a → ∀ x ∈ sbl n a b c d, 0 < x)
  | 0, a, b, c, d, h, hn => absurd hn (by omega)
  | n + 1, a, b, c, d, h, hn => by
    have h0 : 0 ≤ a / b := Int.ediv_nonneg h.a0 (by have := h.b0; omega)
    have h1 : b ≤ a → 0 < a / b := fun hba => by
      have h2 := (Int.le_ediv_iff_mul_le (a := 1) (b := a) h.b0).2 (by omega)
      omega
    by_cases hk : (a / b + 1) * d < c
    · have e : sbl (n + 1) a b c d = [a / b + 1] := by unfold sbl; rw [if_pos hk]
      rw [e]
      refine ⟨fun x hx => ?_, fun x hx => by simp at hx, fun _ x hx => ?_⟩
      · rw [List.mem_singleton.1 hx]; omega
      · rw [List.mem_singleton.1 hx]; omega
    · have e : sbl (n + 1) a b c d = a / b :: sbl n d (c - a / b * d) b (a % b) := by rw [sbl, if_neg hk]
      have ih := sbl_pos n _ _ _ _ (h.next hk) (by have := h.less hk; omega)
      have hle : c - a / b * d ≤ d := by
        have : (a / b + 1) * d = a / b * d + d := by grind
        omega
      rw [e]
      refine ⟨fun x hx => ?_, fun x hx => ih.2.2 hle x hx, fun hba x hx => ?_⟩
      · rcases List.mem_cons.1 hx with rfl | hx
        · exact h0
        · exact ih.1 x hx
      · rcases List.mem_cons.1 hx with rfl | hx
        · exact h1 hba
        · exact ih.2.2 hle x hx
theorem cvg_nn : ∀ (l : List Int) (c : (Int × Int) × (Int × Int)), (∀ x ∈ l, 0 ≤ x) → 0 ≤ c.1.1 → 0 ≤ c.1.2 → 0 ≤ c.2.1 → 0 ≤ c.2.2 → 0 ≤ (cvg l c).1.1 ∧ 0 ≤ (cvg l c).1.2 ∧ 0 ≤ (cvg l c).2.1 ∧ 0 ≤ (cvg l c).2.2
  | [], c, _, h1, h2, h3, h4 => ⟨h1, h2, h3, h4⟩
  | x :: l, c, h, h1, h2, h3, h4 => by
    have hx := h x List.mem_cons_self
    have e : cvg (x :: l) c = cvg l (cst2 c x) := rfl
    rw [e]
    have g1 := Int.mul_nonneg h3 hx
    have g2 := Int.mul_nonneg h4 hx
    exact cvg_nn l _ (fun y hy => h y (List.mem_cons_of_mem _ hy)) h3 h4 (by show 0 ≤ c.2.1 * x + c.1.1; omega) (by show 0 ≤ c.2.2 * x + c.1.2; omega)
theorem cvg_pre {l rest : List Int} {x : Int} (hl : ∀ y ∈ l ++ [x], 0 ≤ y) (hr : ∀ y ∈ rest, 0 < y) :
    0 ≤ (cvg (l ++ [x]) ((0, 1), (1, 0))).2.1 ∧ (cvg (l ++ [x]) ((0, 1), (1, 0))).2.1 ≤ (cpq (l ++ x :: rest)).1 ∧ 0 ≤ (cvg (l ++ [x]) ((0, 1), (1, 0))).2.2 ∧ (cvg (l ++ [x]) ((0, 1), (1, 0))).2.2 ≤ (cpq (l ++ x :: rest)).2 := by
  obtain ⟨n1, n2, n3, n4⟩ := cvg_nn (l ++ [x]) ((0, 1), (1, 0)) hl (by decide) (by decide) (by decide) (by decide)
  have e : cpq (l ++ x :: rest) = (cvg rest (cvg (l ++ [x]) ((0, 1), (1, 0)))).2 := by
    rw [← cvg_begun]
    unfold cvg
    rw [← List.foldl_append, List.append_assoc]
    rfl
  obtain ⟨p1, p2⟩ := cpq_pos rest hr
  rw [e]
  generalize cvg (l ++ [x]) ((0, 1), (1, 0)) = c at *
  rw [cvg_is rest c]
  have g1 : c.2.1 * 1 ≤ c.2.1 * (cpq rest).1 := Int.mul_le_mul_of_nonneg_left (by omega) n3
  have g2 : c.2.2 * 1 ≤ c.2.2 * (cpq rest).1 := Int.mul_le_mul_of_nonneg_left (by omega) n4
  have g3 := Int.mul_nonneg n1 p2
  have g4 := Int.mul_nonneg n2 p2
  refine ⟨n3, ?_, n4, ?_⟩
  · show c.2.1 ≤ c.2.1 * (cpq rest).1 + c.1.1 * (cpq rest).2
    omega
  · show c.2.2 ≤ c.2.2 * (cpq rest).1 + c.1.2 * (cpq rest).2
    omega
theorem sbl_pre {n : Nat} {a b c d : Int} (h : Sb a b c d) (hn : sbm a b c d < n) {l rest : List Int} {x : Int} (e : l ++ x :: rest = sbl n a b c d) :
    0 ≤ (cvg (l ++ [x]) ((0, 1), (1, 0))).2.1 ∧ (cvg (l ++ [x]) ((0, 1), (1, 0))).2.1 ≤ (cpq (sbl n a b c d)).1 ∧ 0 ≤ (cvg (l ++ [x]) ((0, 1), (1, 0))).2.2 ∧ (cvg (l ++ [x]) ((0, 1), (1, 0))).2.2 ≤ (cpq (sbl n a b c d)).2 := by
  obtain ⟨p1, p2, _⟩ := sbl_pos n a b c d h hn
  rw [← e] at p1 p2 ⊢
  refine cvg_pre (fun y hy => p1 y ?_) (fun y hy => p2 y ?_)
  · rcases List.mem_append.1 hy with h1 | h1
    · exact List.mem_append_left _ h1
    · rw [List.mem_singleton.1 h1]; exact List.mem_append_right _ List.mem_cons_self
  · cases l with
    | nil => exact hy
    | cons z l => exact List.mem_append_right _ (List.mem_cons_of_mem _ hy)
end Go.Proofs.YtejlnodillnoaaaGreatDoor
