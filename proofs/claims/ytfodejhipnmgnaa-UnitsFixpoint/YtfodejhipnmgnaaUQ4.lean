/-
  units: what a store keeps (pure): a mark more, a mark followed.
-/
import Derived.Test.YtfodejhipnmgnaaUQ3
namespace Go.Proofs.Ytfodejhipnmgnaa
open Go.RowKit
set_option linter.unusedVariables false
set_option linter.unusedSimpArgs false
def clU (u : US) (n : Nat) : CL := u.cl.getD n default
/-- a clause that was forcing at a lower level than that of its literal, and is put down as such -/
def LateP (u : US) (n : Nat) (lv : Int) : Prop := ∃ s, s < 2 ∧ 0 < trv u (byU u n s) ∧ fallsV u (byU u n (1 - s)) ≤ u.fo ∧ sinceV u (byU u n (1 - s)) < sinceV u (byU u n s) ∧ sinceV u (byU u n s) ≤ lv
/-- a clause that need not be looked at -/
def Good (u : US) (n : Nat) : Prop := (∀ s, s < 2 → (u.fo : Int) < fallsV u (byU u n s)) ∨ (∃ s, s < 2 ∧ 0 < trv u (byU u n s) ∧ sinceV u (byU u n s) ≤ sinceV u (byU u n (1 - s))) ∨ ∃ lv, ((n : Int), lv) ∈ u.la
structure Iv (u : US) : Prop where
  rd : Rd u
  wo : Wo u
  tr : Tr u
  fo : u.fo ≤ u.mks.length
  li : ∀ n, n < u.cl.length → ∀ y ∈ (clU u n).lits, IsL u y
  nx : ∀ n, n < u.cl.length → ∃ z : Nat, (clU u n).nx = z ∧ (0 < (clU u n).lits.length → z < (clU u n).lits.length)
  bm : ∀ n, n < u.cl.length → ∀ s, byU u n s = 0 ∨ byU u n s ∈ (clU u n).lits
  fr : ∀ z ∈ u.fr, ∃ n : Nat, z = n ∧ n < u.cl.length
  la : ∀ e ∈ u.la, ∃ n : Nat, e.1 = n ∧ n < u.cl.length ∧ LateP u n e.2
  nd : (u.fr ++ u.la.map (·.1)).Nodup
  so : u.la.Pairwise (fun a b => a.2 ≤ b.2)
  top : ∀ e ∈ u.la, e.2 ≤ lvlV u
  good : ∀ n, n < u.cl.length → (n : Int) ∉ u.fr → Good u n
theorem Iv.isl {u : US} (h : Iv u) {n s : Nat} (h0 : byU u n s ≠ 0) : IsL u (byU u n s) := by
  rcases Nat.lt_or_ge n u.cl.length with a | a
  · exact h.li n a _ ((h.bm n a s).resolve_left h0)
  · exact absurd (by_zero a) h0
theorem since_zero (u : US) : sinceV u 0 = 0 := by unfold sinceV; rw [if_pos rfl]
theorem falls_zero (u : US) : fallsV u 0 = 0 := by unfold fallsV; rw [if_pos rfl]
theorem Iv.lvn {u : US} (h : Iv u) : lvlV u < nev := by
  have := h.tr.lvl0; have := h.rd.nM; unfold nev; omega
/-- a mark's level, and what is open has none -/
theorem Iv.since_cases {u : US} (h : Iv u) {n s : Nat} : (trv u (byU u n s) = 0 ∧ byU u n s ≠ 0 ∧ sinceV u (byU u n s) = nev) ∨ ((byU u n s = 0 ∨ trv u (byU u n s) ≠ 0) ∧ 0 ≤ sinceV u (byU u n s) ∧ sinceV u (byU u n s) ≤ lvlV u) := by
  by_cases h0 : byU u n s = 0
  · right; rw [h0, since_zero]; exact ⟨Or.inl rfl, Int.le_refl _, h.tr.lvl0.1⟩
  · by_cases ht : trv u (byU u n s) = 0
    · left; exact ⟨ht, h0, by unfold sinceV; rw [if_neg h0, if_pos ht]⟩
    · right; exact ⟨Or.inr ht, h.tr.since_le (h.isl h0) ht⟩
theorem put_lvl {u : US} {x lv r : Int} : lvlV (putU u x lv r) = lv := by
  rw [lvl_eq, put_len, if_neg (by omega), Nat.add_sub_cancel, put_mk, if_pos rfl]
theorem falls_le {u : US} (hr : Rd u) {z : Int} (hz : z ≠ 0) : fallsV u z = nev ∨ (fallsV u z = -(trv u z) ∧ trv u z < 0) := by
  unfold fallsV
  rw [if_neg hz]
  split
  · rename_i h; exact Or.inr ⟨rfl, h⟩
  · exact Or.inl rfl
theorem put_iv {u : US} {x lv r : Int} (h : Iv u) (hx : IsL u x) (h0 : trv u x = 0) (hl : lv = lvlV u ∨ lv = lvlV u + 1) : Iv (putU u x lv r) := by
  have hby : ∀ n s, byU (putU u x lv r) n s = byU u n s := fun _ _ => rfl
  have hI : ∀ z, IsL (putU u x lv r) z ↔ IsL u z := fun z => by unfold IsL InR putU; simp
  have hfo := h.fo
  have hnM := h.rd.nM
  have kp := fun z hz => put_keep (lv := lv) (r := r) hx h0 h.rd (z := z) hz
  have hroom := h.tr.room hx h0
  have hnT := h.rd.nT
  refine ⟨put_rd h.tr h.rd hx h0, ⟨⟨h.wo.wt.f, h.wo.wt.b⟩, h.wo.ds, fun n s => ?_, ?_, h.wo.cl⟩, put_tr h.tr h.rd hx h0 hl, ?_, ?_, h.nx, h.bm, h.fr, ?_, h.nd, h.so, ?_, ?_⟩
  · have := h.wo.inr n s
    show -((putU u x lv r).tr.length : Int) < byU u n s ∧ byU u n s < ((putU u x lv r).tr.length : Int)
    rw [show (putU u x lv r).tr.length = u.tr.length from by simp [putU]]
    exact this
  · show u.ws.length = 2 * (u.tr.set _ _).length; rw [List.length_set]; exact h.wo.ws
  · rw [put_len]; show u.fo ≤ _; omega
  · exact fun n hn y hy => (hI y).2 (h.li n hn y hy)
  · intro e he
    obtain ⟨n, h1, h2, s, h3, h4, h5, h6, h7⟩ := h.la e he
    refine ⟨n, h1, h2, s, h3, ?_⟩
    rw [hby, hby]
    have k1 := kp (byU u n s) (Or.inr (by omega))
    have k2 := kp (byU u n (1 - s)) (by
      by_cases e0 : byU u n (1 - s) = 0
      · exact Or.inl e0
      · right; intro e1
        have := falls_le h.rd e0
        have hn := (show nev = 9223372036854775807 from rfl)
        omega)
    rw [k1.1, k1.2.1, k2.2.1, k2.2.2]
    exact ⟨h4, h5, h6, h7⟩
  · intro e he
    rw [put_lvl]
    have := h.top e he
    omega
  · intro n hn hfr
    rcases h.good n hn hfr with g | ⟨s, h1, h2, h3⟩ | g
    · left
      intro s hs
      rw [hby]
      have g1 := g s hs
      by_cases e0 : byU u n s = 0
      · rw [e0, falls_zero] at g1; omega
      · by_cases e1 : trv u (byU u n s) = 0
        · rcases (put_open (lv := lv) (r := r) hx e0 e1).2 with e | e
          · rw [e]; show (u.fo : Int) < nev; unfold nev; omega
          · rw [e]; show (u.fo : Int) < _; omega
        · rw [(kp _ (Or.inr e1)).2.2]; exact g1
    · right; left
      refine ⟨s, h1, ?_⟩
      rw [hby, hby]
      have k1 := kp (byU u n s) (Or.inr (by omega))
      rw [k1.1, k1.2.1]
      refine ⟨h2, ?_⟩
      rcases h.since_cases (n := n) (s := 1 - s) with ⟨a, b, c⟩ | ⟨a, _⟩
      · have h9 := h.since_cases (n := n) (s := s)
        have h8 := h.lvn
        rcases (put_open (lv := lv) (r := r) hx b a).1 with e | e
        · rw [e]; omega
        · rw [e]; omega
      · rw [(kp _ a).2.1]; exact h3
    · exact Or.inr (Or.inr g)
/-- the next mark is followed: those that are watched by what it made false are fresh -/
def folU (u : US) : US := { u with fr := lsU u (lstV (-(mkU u u.fo).l)), fo := u.fo + 1 }
theorem fol_iv {u : US} (h : Iv u) (hf : u.fo < u.mks.length) (he : u.fr = []) : Iv (folU u) := by
  obtain ⟨hl, ht⟩ := h.tr.lit u.fo hf
  obtain ⟨z, hz⟩ : ∃ z, -(mkU u u.fo).l = z := ⟨_, rfl⟩
  have hzl : (mkU u u.fo).l = -z := by omega
  have hz0 : z ≠ 0 := by have := hl.1; omega
  have htz : trv u z = -((u.fo : Int) + 1) := by
    have := (trv_neg u (mkU u u.fo).l).resolve_right hl.1
    rw [hz, ht] at this
    exact this
  have hfz : fallsV u z = (u.fo : Int) + 1 := by unfold fallsV; rw [if_neg hz0, if_pos (by omega)]; omega
  have hF : folU u = { u with fr := lsU u (lstV z), fo := u.fo + 1 } := by unfold folU; rw [hz]
  rw [hF]
  have mem : ∀ n s, n < u.cl.length → s < 2 → byU u n s = z → (n : Int) ∈ lsU u (lstV z) := fun n s hn hs e => by
    obtain ⟨k, _, hk⟩ := h.wo.wt.f n s hn hs (fun e => e) (by rw [e]; exact hz0)
    rw [e] at hk
    exact List.mem_of_getElem? hk
  have inv : ∀ y ∈ lsU u (lstV z), ∃ n s : Nat, y = n ∧ n < u.cl.length ∧ s < 2 ∧ byU u n s = z := fun y hy => by
    obtain ⟨k, hk, rfl⟩ := List.getElem_of_mem hy
    obtain ⟨n, s, e1, e2, e3, _, e5, e6, _⟩ := h.wo.wt.b _ k _ (List.getElem?_eq_getElem hk)
    exact ⟨n, s, e1, e2, e3, lst_inj e6⟩
  refine ⟨⟨h.rd.n0, h.rd.nT, h.rd.nM, h.rd.tb, h.rd.t0⟩, ⟨⟨h.wo.wt.f, h.wo.wt.b⟩, h.wo.ds, h.wo.inr, h.wo.ws, h.wo.cl⟩, ⟨h.tr.lit, h.tr.has, h.tr.lo, h.tr.mono⟩, by show u.fo + 1 ≤ u.mks.length; omega, h.li, h.nx, h.bm, ?_, ?_, ?_, h.so, h.top, ?_⟩
  · intro y hy
    obtain ⟨n, s, e1, e2, _⟩ := inv y hy
    exact ⟨n, e1, e2⟩
  · intro e he2
    obtain ⟨n, h1, h2, s, h3, h4, h5, h6, h7⟩ := h.la e he2
    refine ⟨n, h1, h2, s, h3, h4, ?_, h6, h7⟩
    have h5' : fallsV u (byU u n (1 - s)) ≤ u.fo := h5
    show fallsV u (byU u n (1 - s)) ≤ ((u.fo + 1 : Nat) : Int)
    omega
  · show (lsU u (lstV z) ++ u.la.map (·.1)).Nodup
    have nd := h.nd
    rw [he, List.nil_append] at nd
    rw [List.nodup_append]
    refine ⟨h.wo.wt.nodup h.wo.ds _, nd, fun a ha b hb e => ?_⟩
    subst e
    obtain ⟨e, he2, rfl⟩ := List.mem_map.1 hb
    obtain ⟨n, h1, h2, s, h3, h4, h5, h6, h7⟩ := h.la e he2
    obtain ⟨n', s', e1, e2, e3, e4⟩ := inv _ ha
    have hnn : n' = n := by omega
    subst hnn
    by_cases hss : s' = s
    · subst hss; rw [e4] at h4; omega
    · have : s' = 1 - s := by omega
      rw [← this, e4, hfz] at h5
      omega
  · intro n hn hfr
    rcases h.good n hn (by rw [he]; simp) with g | g | g
    · left
      intro s hs
      have g1 : (u.fo : Int) < fallsV u (byU u n s) := g s hs
      show ((u.fo + 1 : Nat) : Int) < fallsV u (byU u n s)
      by_cases e : fallsV u (byU u n s) = (u.fo : Int) + 1
      · exfalso
        have e0 : byU u n s ≠ 0 := fun e0 => by rw [e0, falls_zero] at e; omega
        have hI := h.isl e0
        have hn' := h.rd.nM
        rcases falls_le h.rd e0 with q | ⟨q, q2⟩
        · rw [q] at e; unfold nev at e; omega
        · have h1 := (trv_neg u (byU u n s)).resolve_right e0
          have hI2 : IsL u (-(byU u n s)) := ⟨by omega, by obtain ⟨a, b⟩ := hI.2; constructor <;> omega⟩
          obtain ⟨i, a, b, c⟩ := h.tr.has _ hI2 (by omega)
          have : i = u.fo := by omega
          subst this
          exact hfr (mem n s hn hs (by omega))
      · omega
    · exact Or.inr (Or.inl g)
    · exact Or.inr (Or.inr g)
end Go.Proofs.Ytfodejhipnmgnaa
