/-
  units: marks and truths; what a store keeps (pure).
-/
import Derived.Test.YtfodejhipnmgnaaUQ2
namespace Go.Proofs.Ytfodejhipnmgnaa
open Go.RowKit
set_option linter.unusedVariables false
set_option linter.unusedSimpArgs false
def mkU (u : US) (i : Nat) : Mk := u.mks.getD i default
theorem trv_neg (u : US) (x : Int) : trv u (-x) = -trv u x ∨ x = 0 := by
  by_cases h0 : x = 0
  · exact Or.inr h0
  · left
    unfold trv
    rw [Int.natAbs_neg]
    by_cases h : x < 0
    · rw [if_pos h, if_neg (by omega)]; omega
    · rw [if_neg h, if_pos (by omega)]
/-- truths and marks are one thing -/
structure Tr (u : US) : Prop where
  lit : ∀ i, i < u.mks.length → IsL u (mkU u i).l ∧ trv u (mkU u i).l = (i : Int) + 1
  has : ∀ x, IsL u x → 0 < trv u x → ∃ i : Nat, i < u.mks.length ∧ trv u x = (i : Int) + 1 ∧ (mkU u i).l = x
  lo : ∀ i, i < u.mks.length → 0 ≤ (mkU u i).v ∧ (mkU u i).v ≤ (i : Int) + 1
  mono : ∀ i j, i ≤ j → j < u.mks.length → (mkU u i).v ≤ (mkU u j).v
theorem lvl_eq (u : US) : lvlV u = if u.mks.length = 0 then 0 else (mkU u (u.mks.length - 1)).v := by
  unfold lvlV mkU
  rw [List.getLast?_eq_getElem?]
  by_cases h : u.mks.length = 0
  · rw [if_pos h, List.getElem?_eq_none (by omega)]
  · rw [if_neg h, List.getElem?_eq_getElem (by omega)]
    simp [List.getD, List.getElem?_eq_getElem (show u.mks.length - 1 < u.mks.length by omega)]
theorem Tr.lvl0 {u : US} (h : Tr u) : 0 ≤ lvlV u ∧ lvlV u ≤ u.mks.length := by
  rw [lvl_eq]
  split
  · omega
  · have := h.lo (u.mks.length - 1) (by omega); omega
theorem Tr.top {u : US} (h : Tr u) {i : Nat} (hi : i < u.mks.length) : (mkU u i).v ≤ lvlV u := by
  rw [lvl_eq, if_neg (by omega)]
  exact h.mono _ _ (by omega) (by omega)
/-- a literal that has a mark -/
theorem Tr.at_ {u : US} (h : Tr u) {x : Int} (hx : IsL u x) (ht : trv u x ≠ 0) : ∃ i : Nat, i < u.mks.length ∧ (trv u x).natAbs = i + 1 ∧ sinceV u x = (mkU u i).v := by
  have key : ∀ i : Nat, (trv u x).natAbs = i + 1 → sinceV u x = (mkU u i).v := fun i e => by
    unfold sinceV mkU
    rw [if_neg hx.1, if_neg ht, e, Nat.add_sub_cancel]
  rcases Int.lt_or_gt_of_ne ht with h1 | h1
  · have h2 := (trv_neg u x).resolve_right hx.1
    have hx2 : IsL u (-x) := ⟨by have := hx.1; omega, by obtain ⟨a, b⟩ := hx.2; constructor <;> omega⟩
    obtain ⟨i, a, b, c⟩ := h.has (-x) hx2 (by omega)
    exact ⟨i, a, by omega, key i (by omega)⟩
  · obtain ⟨i, a, b, c⟩ := h.has x hx h1
    exact ⟨i, a, by omega, key i (by omega)⟩
theorem Tr.since_le {u : US} (h : Tr u) {x : Int} (hx : IsL u x) (ht : trv u x ≠ 0) : 0 ≤ sinceV u x ∧ sinceV u x ≤ lvlV u := by
  obtain ⟨i, a, _, c⟩ := h.at_ hx ht
  rw [c]
  exact ⟨(h.lo i a).1, h.top a⟩
theorem Tr.nodup {u : US} (h : Tr u) : (u.mks.map fun m => ((m.l.natAbs : Nat) : Int) - 1).Nodup := by
  rw [List.Nodup, List.pairwise_iff_getElem]
  intro i j hi hj hij e
  simp only [List.length_map] at hi hj
  simp only [List.getElem_map] at e
  have e1 : mkU u i = u.mks[i] := by simp [mkU, List.getD, List.getElem?_eq_getElem hi]
  have e2 : mkU u j = u.mks[j] := by simp [mkU, List.getD, List.getElem?_eq_getElem hj]
  rw [← e1, ← e2] at e
  obtain ⟨l1, t1⟩ := h.lit i hi
  obtain ⟨l2, t2⟩ := h.lit j hj
  have e3 : (trv u (mkU u i).l).natAbs = (trv u (mkU u j).l).natAbs := by rw [trv_abs, trv_abs, show (mkU u i).l.natAbs = (mkU u j).l.natAbs by omega]
  omega
theorem Tr.range {u : US} (h : Tr u) : ∀ z ∈ (u.mks.map fun m => ((m.l.natAbs : Nat) : Int) - 1), 0 ≤ z ∧ z < (u.tr.length - 1 : Nat) := fun z hz => by
  obtain ⟨m, hm, rfl⟩ := List.mem_map.1 hz
  obtain ⟨i, hi, rfl⟩ := List.getElem_of_mem hm
  have e1 : mkU u i = u.mks[i] := by simp [mkU, List.getD, List.getElem?_eq_getElem hi]
  obtain ⟨⟨l1, l2, l3⟩, t1⟩ := h.lit i hi
  rw [e1] at l1 l2 l3
  omega
theorem Tr.len {u : US} (h : Tr u) : u.mks.length ≤ u.tr.length - 1 := by
  have := nodup_le _ _ h.nodup h.range
  simpa using this
/-- where a literal is open, there is room -/
theorem Tr.room {u : US} (h : Tr u) {x : Int} (hx : IsL u x) (h0 : trv u x = 0) : u.mks.length + 1 ≤ u.tr.length - 1 := by
  have h1 : ((((x.natAbs : Nat) : Int) - 1) :: (u.mks.map fun m : Mk => ((m.l.natAbs : Nat) : Int) - 1)).Nodup := by
    rw [List.nodup_cons]
    refine ⟨fun hm => ?_, h.nodup⟩
    obtain ⟨m, hm, e⟩ := List.mem_map.1 hm
    obtain ⟨i, hi, rfl⟩ := List.getElem_of_mem hm
    have e1 : mkU u i = u.mks[i] := by simp [mkU, List.getD, List.getElem?_eq_getElem hi]
    rw [← e1] at e
    obtain ⟨l1, t1⟩ := h.lit i hi
    have e3 : (trv u (mkU u i).l).natAbs = (trv u x).natAbs := by rw [trv_abs, trv_abs, show (mkU u i).l.natAbs = x.natAbs by omega]
    omega
  have := nodup_le (u.tr.length - 1) _ h1 fun z hz => by
    rcases List.mem_cons.1 hz with rfl | hz
    · obtain ⟨l1, l2, l3⟩ := hx; omega
    · exact h.range z hz
  simpa using this
/-- behind a mark more -/
theorem put_trv {u : US} {x lv r : Int} (hx : IsL u x) (z : Int) : trv (putU u x lv r) z = if z = x then (u.mks.length : Int) + 1 else if z = -x then -((u.mks.length : Int) + 1) else trv u z := by
  obtain ⟨h0, h1, h2⟩ := hx
  unfold trv putU
  simp only [getD_set']
  have hl : x.natAbs < u.tr.length := by omega
  by_cases e1 : z = x
  · subst e1
    rw [if_pos rfl]
    by_cases h : z < 0
    · simp [h, hl]
    · simp [h, hl]
  · rw [if_neg e1]
    by_cases e2 : z = -x
    · subst e2
      rw [if_pos rfl, Int.natAbs_neg]
      by_cases h : x < 0
      · rw [if_neg (by omega), if_pos ⟨rfl, hl⟩, if_pos h]
      · rw [if_pos (by omega), if_pos ⟨rfl, hl⟩, if_neg h]
    · rw [if_neg e2]
      have e3 : ¬ (z.natAbs = x.natAbs ∧ x.natAbs < u.tr.length) := fun q => by have := q.1; omega
      simp only [if_neg e3]
theorem put_mk {u : US} {x lv r : Int} (i : Nat) : mkU (putU u x lv r) i = if i = u.mks.length then ⟨x, lv, r⟩ else mkU u i := by
  unfold mkU putU
  simp only [List.getD]
  by_cases h : i = u.mks.length
  · subst h; simp
  · rw [if_neg h]
    rcases Nat.lt_or_ge i u.mks.length with a | a
    · rw [List.getElem?_append_left a]
    · rw [List.getElem?_eq_none (by simp; omega), List.getElem?_eq_none a]
theorem put_len {u : US} {x lv r : Int} : (putU u x lv r).mks.length = u.mks.length + 1 := by simp [putU]
theorem put_keep {u : US} {x lv r : Int} (hx : IsL u x) (h0 : trv u x = 0) (hr : Rd u) {z : Int} (hz : z = 0 ∨ trv u z ≠ 0) : trv (putU u x lv r) z = trv u z ∧ sinceV (putU u x lv r) z = sinceV u z ∧ fallsV (putU u x lv r) z = fallsV u z := by
  have ht : trv (putU u x lv r) z = trv u z := by
    rw [put_trv hx]
    by_cases e1 : z = x
    · subst e1; rcases hz with rfl | h; exact absurd rfl hx.1; exact absurd h0 h
    · rw [if_neg e1]
      by_cases e2 : z = -x
      · have := (trv_neg u x).resolve_right hx.1
        rw [← e2] at this
        rcases hz with rfl | h
        · exact absurd (by omega) hx.1
        · exact absurd (by omega) h
      · rw [if_neg e2]
  refine ⟨ht, ?_, by unfold fallsV; rw [ht]⟩
  have := hr.tv z
  unfold sinceV
  rw [ht]
  by_cases e : z = 0
  · rw [if_pos e, if_pos e]
  · rw [if_neg e, if_neg e]
    have h2 := hz.resolve_left e
    rw [if_neg h2, if_neg h2]
    have := put_mk (u := u) (x := x) (lv := lv) (r := r) ((trv u z).natAbs - 1)
    rw [if_neg (by omega)] at this
    exact congrArg Mk.v this
theorem put_open {u : US} {x lv r : Int} (hx : IsL u x) {z : Int} (hz : z ≠ 0) (h0 : trv u z = 0) : (sinceV (putU u x lv r) z = lv ∨ sinceV (putU u x lv r) z = nev) ∧ (fallsV (putU u x lv r) z = nev ∨ fallsV (putU u x lv r) z = (u.mks.length : Int) + 1) := by
  have hm : ((putU u x lv r).mks.getD u.mks.length default).v = lv := by
    have := put_mk (u := u) (x := x) (lv := lv) (r := r) u.mks.length
    rw [if_pos rfl] at this
    exact congrArg Mk.v this
  unfold sinceV fallsV
  rw [put_trv hx, if_neg hz, if_neg hz]
  by_cases e1 : z = x
  · rw [if_pos e1, if_neg (by omega), if_neg (by omega), show ((u.mks.length : Int) + 1).natAbs - 1 = u.mks.length by omega]
    exact ⟨Or.inl hm, Or.inl rfl⟩
  · rw [if_neg e1]
    by_cases e2 : z = -x
    · rw [if_pos e2, if_neg (by omega), if_pos (by omega), show (-((u.mks.length : Int) + 1)).natAbs - 1 = u.mks.length by omega]
      exact ⟨Or.inl hm, Or.inr (by omega)⟩
    · rw [if_neg e2, if_pos h0, if_neg (by omega)]
      exact ⟨Or.inr rfl, Or.inl rfl⟩
theorem put_tr {u : US} {x lv r : Int} (h : Tr u) (hr : Rd u) (hx : IsL u x) (h0 : trv u x = 0) (hl : lv = lvlV u ∨ lv = lvlV u + 1) : Tr (putU u x lv r) := by
  have hI : ∀ z, IsL (putU u x lv r) z ↔ IsL u z := fun z => by unfold IsL InR putU; simp
  have hlv := h.lvl0
  refine ⟨fun i hi => ?_, fun z hz ht => ?_, fun i hi => ?_, fun i j hij hj => ?_⟩
  · rw [put_len] at hi
    rw [put_mk, hI]
    by_cases e : i = u.mks.length
    · rw [if_pos e]
      exact ⟨hx, by rw [put_trv hx, if_pos rfl, e]⟩
    · rw [if_neg e]
      obtain ⟨a, b⟩ := h.lit i (by omega)
      exact ⟨a, by rw [(put_keep hx h0 hr (Or.inr (by omega))).1, b]⟩
  · rw [hI] at hz
    rw [put_trv hx] at ht ⊢
    by_cases e1 : z = x
    · rw [if_pos e1]
      exact ⟨u.mks.length, by rw [put_len]; omega, rfl, by rw [put_mk, if_pos rfl, e1]⟩
    · rw [if_neg e1] at ht ⊢
      by_cases e2 : z = -x
      · rw [if_pos e2] at ht; omega
      · rw [if_neg e2] at ht ⊢
        obtain ⟨i, a, b, c⟩ := h.has z hz ht
        exact ⟨i, by rw [put_len]; omega, b, by rw [put_mk, if_neg (by omega), c]⟩
  · rw [put_len] at hi
    rw [put_mk]
    split
    · simp only; omega
    · have := h.lo i (by omega); exact this
  · rw [put_len] at hj
    rw [put_mk, put_mk]
    by_cases e : j = u.mks.length
    · rw [if_pos e]
      by_cases e2 : i = u.mks.length
      · rw [if_pos e2]; exact Int.le_refl _
      · rw [if_neg e2]
        have := h.top (i := i) (by omega)
        simp only
        omega
    · rw [if_neg e, if_neg (by omega)]
      exact h.mono i j hij (by omega)
theorem put_rd {u : US} {x lv r : Int} (h : Tr u) (hr : Rd u) (hx : IsL u x) (h0 : trv u x = 0) : Rd (putU u x lv r) := by
  have hroom := h.room hx h0
  have hT := hr.nT
  obtain ⟨x0, x1, x2⟩ := hx
  refine ⟨by show 0 < (u.tr.set _ _).length; rw [List.length_set]; exact hr.n0, by show (u.tr.set _ _).length ≤ _; rw [List.length_set]; exact hr.nT, by rw [put_len]; omega, fun i => ?_, ?_⟩
  · rw [put_len]
    show ((u.tr.set _ _).getD i 0).natAbs ≤ _
    rw [getD_set']
    split
    · split <;> omega
    · have := hr.tb i; omega
  · show (u.tr.set _ _).getD 0 0 = 0
    rw [getD_set', if_neg (by omega)]
    exact hr.t0
end Go.Proofs.Ytfodejhipnmgnaa
