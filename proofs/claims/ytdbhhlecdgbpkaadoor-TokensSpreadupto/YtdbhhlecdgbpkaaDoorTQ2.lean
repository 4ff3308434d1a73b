/-
  All tokens of a text: each can be printed; how long they are together.
-/
import Derived.Test.YtdbhhlecdgbpkaaDoorTQ1
namespace Go.Proofs.YtdbhhlecdgbpkaaDoor
open Go.RowKit
set_option linter.unusedVariables false
set_option linter.unusedSimpArgs false

theorem qtP_len {S : List UInt8} (j : Nat) (l : List UInt8) {k e : Nat} {t : ByteArray} {self : Bool} (h : qtP S j l = .tok k t e self) : t.size + j + 1 ≤ e + l.length := by
  rw [qtP] at h
  split at h
  · split at h
    · split at h
      · have := qtP_len (j + 2) _ h
        rw [List.length_append] at this
        simp only [List.length_cons, List.length_nil] at this
        omega
      · injection h with g1 g2 g3 g4
        rw [← g2, bts_size]
        omega
    · split at h
      · cases h
      · have := qtP_len (j + 1) _ h
        rw [List.length_append] at this
        simp only [List.length_cons, List.length_nil] at this
        omega
  · cases h
termination_by S.length - j
decreasing_by all_goals omega
theorem subS_le (S : List UInt8) (i j : Nat) : (subS S i j).length ≤ j - i := by
  unfold subS
  rw [List.length_take]
  omega
theorem barP_len {S : List UInt8} (i j : Nat) (hij : i < j) {k e : Nat} {t : ByteArray} {self : Bool} (h : barP S i j = .tok k t e self) : t.size + i + 2 ≤ e := by
  rw [barP] at h
  split at h
  · split at h
    · injection h with g1 g2 g3 g4
      rw [← g2, bts_size]
      have := subS_le S (i + 1) j
      omega
    · split at h
      · cases h
      · exact barP_len i (j + 1) (by omega) h
  · cases h
termination_by S.length - j
decreasing_by all_goals omega
theorem look_len {S : List UInt8} {i k e : Nat} {t : ByteArray} {self : Bool} (hi : i < S.length) (h : lookP S i = .tok k t e self) : t.size ≤ e - i := by
  have hz := lookP_size hi h
  by_cases hk : k = 1 ∨ k = 2 ∨ k = 5 ∨ k = 6
  · rw [hz.2.1 hk]; exact Nat.le_refl _
  by_cases hk2 : k = 7 ∨ k = 8
  · have := hz.2.2 hk2; omega
  unfold lookP at h
  split at h
  · injection h with g1 g2 g3 g4; omega
  split at h
  · injection h with g1 g2 g3 g4; omega
  split at h
  · have := qtP_len _ _ h
    simp only [List.length_nil] at this
    omega
  split at h
  · have := barP_len _ _ (by omega) h
    omega
  split at h
  · unfold keyP at h
    split at h
    · cases h
    split at h
    · cases h
    injection h with g1 g2 g3 g4
    rw [← g2, bts_size, ← g3]
    have := subS_le S (i + 1) (runE syN S (i + 1))
    omega
  split at h
  · exfalso
    unfold shpP at h
    split at h
    · cases h
    split at h
    · have := (shq_alone (by omega) h).1; omega
    split at h
    · have := (shq_alone (by omega) h).1; omega
    · cases h
  split at h
  · rename_i hd
    exfalso
    have := (num_alone hi hd h).1
    omega
  split at h
  · injection h with g1 g2 g3 g4
    rw [← g2, bts_size, ← g3]
    exact subS_le S i (runE syN S i)
  · cases h
theorem all_print (S : List UInt8) (k : Nat) (hk : k ≤ S.length) : (∀ T ∈ (allF S k).1, PrOk T.k T.t ∧ T.t.size ≤ S.length) ∧ wgt (allF S k).1 ≤ 5 * (S.length - k) := by
  obtain ⟨a1, a2, a3, _⟩ := gapE_spec S 3 k (Or.inl rfl) hk
  have eg := allF_gap hk
  rw [← eg]
  by_cases hl : gapE S 3 k < S.length
  · have hs := look_step hl (a3 hl)
    rcases hX : lookP S (gapE S 3 k) with ⟨kk, t, e, self⟩ | code | x
    · have hp := look_print hl (a3 hl) hX
      have hz := look_len hl hX
      rw [hX] at hs
      have h1 := hs.1
      have h2 := hs.2.1
      obtain ⟨i1, i2⟩ := all_print S e h2
      rw [allF_tok hs]
      refine ⟨fun T hT => ?_, ?_⟩
      · rcases List.mem_cons.1 hT with c | c
        · rw [c]
          exact ⟨hp, by show t.size ≤ _; omega⟩
        · exact i1 T c
      · show 2 * t.size + 3 + wgt (allF S e).1 ≤ _
        omega
    · rw [hX] at hs
      rw [(allF_half hs).2]
      exact ⟨fun T hT => absurd hT (by simp), Nat.zero_le _⟩
    · rw [hX] at hs
      rw [allF_bad hs]
      exact ⟨fun T hT => absurd hT (by simp), Nat.zero_le _⟩
  · have e : gapE S 3 k = S.length := by omega
    rw [e, allF_end]
    exact ⟨fun T hT => absurd hT (by simp), Nat.zero_le _⟩
termination_by S.length - k
decreasing_by omega
theorem all_spread (S : List UInt8) : ∃ pr : Tok → ByteArray, (∀ T ∈ (allP S).1, PrR T.k T.t (pr T) 0 ∧ T.t.size ≤ S.length) ∧ wgt (allP S).1 ≤ 5 * S.length ∧ KT (allP (lsB (cat pr (allP S).1))).1 = KT (allP S).1 ∧ (allP (lsB (cat pr (allP S).1))).2 = 0 := by
  obtain ⟨h1, h2⟩ := all_print S 0 (Nat.zero_le _)
  obtain ⟨z1, _, _⟩ := allF_zero S
  rw [z1] at h1 h2
  have hc : ∀ T : Tok, ∃ s, T ∈ (allP S).1 → PrR T.k T.t s 0 := fun T => by
    by_cases hT : T ∈ (allP S).1
    · obtain ⟨s, hs⟩ := (h1 T hT).1
      exact ⟨s, fun _ => hs⟩
    · exact ⟨⟨#[]⟩, fun c => absurd c hT⟩
  refine ⟨fun T => Classical.choose (hc T), fun T hT => ⟨Classical.choose_spec (hc T) hT, (h1 T hT).2⟩, by rw [Nat.sub_zero] at h2; exact h2, ?_⟩
  exact cat_all _ _ (fun T hT => (Classical.choose_spec (hc T) hT).one)
theorem KT_len {a b : List Tok} (h : KT a = KT b) : a.length = b.length := by
  have := congrArg List.length h
  simpa [KT] using this
theorem KT_at {a b : List Tok} (h : KT a = KT b) (k : Nat) (h1 : k < a.length) (h2 : k < b.length) : a[k].k = b[k].k ∧ a[k].t = b[k].t := by
  have e1 : (KT a)[k]? = some (a[k].k, a[k].t) := by simp [KT, List.getElem?_eq_getElem h1]
  have e2 : (KT b)[k]? = some (b[k].k, b[k].t) := by simp [KT, List.getElem?_eq_getElem h2]
  rw [h, e2] at e1
  injection e1 with e1
  injection e1 with e3 e4
  exact ⟨e3.symm, e4.symm⟩
theorem cat_on (pr : Tok → ByteArray) (L : List Tok) (k : Nat) (h : k < L.length) : cat pr (L.take (k + 1)) = cat pr (L.take k) ++ pr L[k] ++ ⟨#[32]⟩ := by
  have e : L.take (k + 1) = L.take k ++ [L[k]] := by
    rw [List.take_add_one, List.getElem?_eq_getElem h]
    rfl
  rw [e, cat_app]
  show cat pr (L.take k) ++ (pr L[k] ++ ⟨#[32]⟩ ++ ⟨#[]⟩) = _
  apply ByteArray.ext
  simp only [ByteArray.data_append]
  simp
theorem wgt_take (L : List Tok) (k : Nat) : wgt (L.take k) ≤ wgt L := by
  have h := wgt_app (L.take k) (L.drop k)
  rw [List.take_append_drop] at h
  omega
end Go.Proofs.YtdbhhlecdgbpkaaDoor
