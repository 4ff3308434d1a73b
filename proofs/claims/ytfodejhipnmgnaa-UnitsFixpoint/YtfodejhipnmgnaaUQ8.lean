/-
  units: the first store, a clause more, a decision (pure).
-/
import Derived.Test.YtfodejhipnmgnaaUG1
namespace Go.Proofs.Ytfodejhipnmgnaa
open Go.RowKit
set_option linter.unusedVariables false
set_option linter.unusedSimpArgs false
theorem rep_getD {α : Type} (n i : Nat) (x : α) : (List.replicate n x).getD i x = x := by
  simp only [List.getD, List.getElem?_replicate]
  split <;> rfl
theorem us0_by (n m s : Nat) : byU (us0 n) m s = 0 := by
  show (CL.by' (([] : List CL).getD m default) s) = 0
  unfold CL.by'
  split <;> rfl
theorem us0_trv (n : Nat) (x : Int) : trv (us0 n) x = 0 := by
  unfold trv us0
  simp only [rep_getD]
  split <;> rfl
theorem us0_ls (n i : Nat) : lsU (us0 n) i = [] := rep_getD _ _ _
theorem us0_iv {n : Nat} (hn : n ≤ 262144) : Iv (us0 n) := by
  have hl : (us0 n).tr.length = n + 1 := by simp [us0]
  refine ⟨⟨by omega, by omega, by simp [us0], fun i => ?_, rep_getD _ _ _⟩, ⟨⟨fun m s h => absurd h (by simp [us0]), fun i k z h => ?_⟩, fun m _ => us0_by n m 0, fun m s => ?_, by simp [us0], by simp [us0]⟩,
    ⟨fun i h => absurd h (by simp [us0]), fun x _ h => ?_, fun i h => absurd h (by simp [us0]), fun i j _ h => absurd h (by simp [us0])⟩, by simp [us0], fun m h => absurd h (by simp [us0]), fun m h => absurd h (by simp [us0]), fun m h => absurd h (by simp [us0]),
    fun z h => absurd h (by simp [us0]), fun z h => absurd h (by simp [us0]), by simp [us0], by simp [us0], fun z h => absurd h (by simp [us0]), fun m h => absurd h (by simp [us0])⟩
  · show ((List.replicate (n + 1) (0 : Int)).getD i 0).natAbs ≤ 0
    rw [rep_getD]; exact Nat.le_refl _
  · rw [us0_ls] at h; simp at h
  · rw [us0_by]; exact ⟨by omega, by omega⟩
  · rw [us0_trv] at h; omega
/-- is it a literal of the store? -/
def isLV (u : US) (x : Int) : Bool := decide (x ≠ 0) && (decide (-((u.tr.length : Int) - 1) ≤ x) && decide (x ≤ (u.tr.length : Int) - 1))
theorem isLV_iff (u : US) (x : Int) : isLV u x = true ↔ IsL u x := by
  unfold isLV IsL InR
  simp only [Bool.and_eq_true, decide_eq_true_eq]
  omega
/-- a clause more -/
def addU (u : US) (l : List Int) : US := { u with cl := u.cl ++ [⟨l, 0, 0, 0, 0, 0⟩], fr := u.fr ++ [(u.cl.length : Int)] }
def addF (u : US) (l : List Int) : US := if l.all (isLV u) = true then addU u l else u
def decF (u : US) (x : Int) : US := if isLV u x = true ∧ trv u x = 0 then putU u x (lvlV u + 1) (-1) else u
theorem app_getD {α : Type} (l : List α) (x d : α) (m : Nat) : (l ++ [x]).getD m d = if m = l.length then x else l.getD m d := by
  simp only [List.getD, List.getElem?_append]
  by_cases h : m < l.length
  · rw [if_pos h, if_neg (by omega)]
  · rw [if_neg h]
    by_cases e : m = l.length
    · subst e; simp
    · rw [if_neg e, List.getElem?_eq_none (l := l) (by omega), List.getElem?_eq_none (by simp; omega)]
theorem add_cl (u : US) (l : List Int) (m : Nat) : clU (addU u l) m = if m = u.cl.length then ⟨l, 0, 0, 0, 0, 0⟩ else clU u m := app_getD _ _ _ _
theorem add_by (u : US) (l : List Int) (m s : Nat) : byU (addU u l) m s = byU u m s := by
  show CL.by' (clU (addU u l) m) s = CL.by' (clU u m) s
  rw [add_cl]
  by_cases e : m = u.cl.length
  · subst e
    rw [if_pos rfl, show clU u u.cl.length = default by simp [clU, List.getD]]
    unfold CL.by'
    split <;> rfl
  · rw [if_neg e]
theorem add_at (u : US) (l : List Int) (m s : Nat) : atU (addU u l) m s = atU u m s := by
  show CL.at' (clU (addU u l) m) s = CL.at' (clU u m) s
  rw [add_cl]
  by_cases e : m = u.cl.length
  · subst e
    rw [if_pos rfl, show clU u u.cl.length = default by simp [clU, List.getD]]
    unfold CL.at'
    split <;> rfl
  · rw [if_neg e]
theorem add_iv {u : US} {l : List Int} (h : Iv u) (hc : u.cl.length < 1048576) (hl : ∀ y ∈ l, IsL u y) : Iv (addU u l) := by
  have hlen : (addU u l).cl.length = u.cl.length + 1 := by simp [addU]
  have hfr : ∀ z ∈ u.fr, z ≠ (u.cl.length : Int) := fun z hz e => by obtain ⟨n, h1, h2⟩ := h.fr z hz; omega
  have hla : ∀ e ∈ u.la, e.1 ≠ (u.cl.length : Int) := fun e he q => by obtain ⟨n, h1, h2, _⟩ := h.la e he; omega
  have hb0 : ∀ s, byU u u.cl.length s = 0 := fun s => by_zero (Nat.le_refl _)
  refine ⟨⟨h.rd.n0, h.rd.nT, h.rd.nM, h.rd.tb, h.rd.t0⟩, ⟨⟨fun m s h1 h2 h3 h4 => ?_, fun i k z hz => ?_⟩, fun m => ?_, fun m s => ?_, h.wo.ws, by rw [hlen]; omega⟩, ⟨h.tr.lit, h.tr.has, h.tr.lo, h.tr.mono⟩, h.fo, ?_, ?_, ?_, ?_, ?_, ?_, h.so, h.top, ?_⟩
  · rw [add_by] at h4 ⊢
    rw [add_at]
    rw [hlen] at h1
    by_cases e : m = u.cl.length
    · subst e; exact absurd (hb0 s) h4
    · exact h.wo.wt.f m s (by omega) h2 h3 h4
  · obtain ⟨n, s, e1, e2, e3, e4, e5, e6, e7⟩ := h.wo.wt.b i k z hz
    exact ⟨n, s, e1, by rw [hlen]; omega, e3, e4, by rw [add_by]; exact e5, by rw [add_by]; exact e6, by rw [add_at]; exact e7⟩
  · rw [add_by, add_by]; exact h.wo.ds m
  · rw [add_by]; exact h.wo.inr m s
  · intro m hm y hy
    rw [hlen] at hm
    rw [add_cl] at hy
    by_cases e : m = u.cl.length
    · rw [if_pos e] at hy; exact hl y hy
    · rw [if_neg e] at hy; exact h.li m (by omega) y hy
  · intro m hm
    rw [hlen] at hm
    rw [add_cl]
    by_cases e : m = u.cl.length
    · rw [if_pos e]; exact ⟨0, rfl, fun h => h⟩
    · rw [if_neg e]; exact h.nx m (by omega)
  · intro m hm s
    rw [hlen] at hm
    rw [add_by, add_cl]
    by_cases e : m = u.cl.length
    · subst e; exact Or.inl (hb0 s)
    · rw [if_neg e]; exact h.bm m (by omega) s
  · intro z hz
    rw [hlen]
    rcases List.mem_append.1 hz with hz | hz
    · obtain ⟨n, h1, h2⟩ := h.fr z hz; exact ⟨n, h1, by omega⟩
    · exact ⟨u.cl.length, List.mem_singleton.1 hz, by omega⟩
  · intro e he
    obtain ⟨n, h1, h2, s, h3, h4⟩ := h.la e he
    refine ⟨n, h1, by rw [hlen]; omega, s, h3, ?_⟩
    rw [add_by, add_by]
    exact h4
  · show ((u.fr ++ [(u.cl.length : Int)]) ++ u.la.map (·.1)).Nodup
    have nd := h.nd
    rw [List.nodup_append] at nd ⊢
    refine ⟨?_, nd.2.1, fun a ha b hb => ?_⟩
    · rw [List.nodup_append]
      exact ⟨nd.1, by simp, fun a ha b hb => by rw [List.mem_singleton.1 hb]; exact hfr a ha⟩
    · rcases List.mem_append.1 ha with ha | ha
      · exact nd.2.2 a ha b hb
      · rw [List.mem_singleton.1 ha]
        obtain ⟨e, he, rfl⟩ := List.mem_map.1 hb
        exact fun q => hla e he q.symm
  · intro m hm hf
    rw [hlen] at hm
    have h1 : m ≠ u.cl.length := fun e => hf (List.mem_append_right _ (by rw [e]; simp))
    rcases h.good m (by omega) (fun q => hf (List.mem_append_left _ q)) with g | ⟨s, g1, g2, g3⟩ | ⟨lv, g⟩
    · refine Or.inl fun s hs => ?_
      rw [add_by]
      exact g s hs
    · refine Or.inr (Or.inl ⟨s, g1, ?_⟩)
      rw [add_by, add_by]
      exact ⟨g2, g3⟩
    · exact Or.inr (Or.inr ⟨lv, g⟩)
theorem addF_iv {u : US} {l : List Int} (h : Iv u) (hc : u.cl.length < 1048576) : Iv (addF u l) := by
  unfold addF
  split
  · rename_i ha
    exact add_iv h hc fun y hy => (isLV_iff u y).1 (List.all_eq_true.1 ha y hy)
  · exact h
theorem addF_len (u : US) (l : List Int) : (addF u l).cl.length ≤ u.cl.length + 1 := by
  unfold addF
  split
  · simp [addU]
  · omega
theorem addF_tr (u : US) (l : List Int) : (addF u l).tr = u.tr ∧ (addF u l).mks = u.mks := by
  unfold addF
  split <;> exact ⟨rfl, rfl⟩
/-- a clause more, if there is room -/
def addG (u : US) (l : List Int) : US := if u.cl.length < 1048576 then addF u l else u
theorem addG_iv {u : US} {l : List Int} (h : Iv u) : Iv (addG u l) := by
  unfold addG
  split
  · rename_i hc; exact addF_iv h hc
  · exact h
theorem addG_len (u : US) (l : List Int) : (addG u l).cl.length ≤ u.cl.length + 1 := by
  unfold addG
  split
  · exact addF_len u l
  · omega
theorem addG_tr (u : US) (l : List Int) : (addG u l).tr = u.tr ∧ (addG u l).mks = u.mks := by
  unfold addG
  split
  · exact addF_tr u l
  · exact ⟨rfl, rfl⟩
theorem decF_iv {u : US} {x : Int} (h : Iv u) : Iv (decF u x) := by
  unfold decF
  split
  · rename_i ha
    exact put_iv h ((isLV_iff u x).1 ha.1) ha.2 (Or.inr rfl)
  · exact h
theorem decF_tr (u : US) (x : Int) : (decF u x).tr.length = u.tr.length ∧ (decF u x).cl = u.cl := by
  unfold decF
  split
  · exact ⟨by simp [putU], rfl⟩
  · exact ⟨rfl, rfl⟩
end Go.Proofs.Ytfodejhipnmgnaa
