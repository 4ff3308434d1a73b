/-
  units: look (pure): what a store keeps.
-/
import Derived.Test.YtfodejhipnmgnaaUQ5
namespace Go.Proofs.Ytfodejhipnmgnaa
open Go.RowKit
set_option linter.unusedVariables false
set_option linter.unusedSimpArgs false
theorem trv_lk {u v : US} (h : Lk u v) (x : Int) : trv v x = trv u x := by unfold trv; rw [h.tr]
theorem since_lk {u v : US} (h : Lk u v) (x : Int) : sinceV v x = sinceV u x := by unfold sinceV; rw [trv_lk h, h.mks]
theorem falls_lk {u v : US} (h : Lk u v) (x : Int) : fallsV v x = fallsV u x := by unfold fallsV; rw [trv_lk h]
theorem lvl_lk {u v : US} (h : Lk u v) : lvlV v = lvlV u := by unfold lvlV; rw [h.mks]
theorem mk_lk {u v : US} (h : Lk u v) (i : Nat) : mkU v i = mkU u i := by unfold mkU; rw [h.mks]
theorem isl_lk {u v : US} (h : Lk u v) (x : Int) : IsL v x ↔ IsL u x := by unfold IsL InR; rw [h.tr]
/-- one clause that is fresh is watched by others -/
theorem Iv.rw {u v : US} {n : Nat} (h : Iv u) (lk : Lk u v) (hw : Wo v) (hl : ∀ m, (clU v m).lits = (clU u m).lits) (hnx : ∀ m, m < u.cl.length → ∃ z : Nat, (clU v m).nx = z ∧ (0 < (clU u m).lits.length → z < (clU u m).lits.length))
    (hby : ∀ m s, m ≠ n → byU v m s = byU u m s) (hbm : ∀ s, byU v n s = 0 ∨ byU v n s ∈ (clU u n).lits) (hn : (n : Int) ∈ u.fr) : Iv v := by
  have hla : ∀ e ∈ u.la, e.1 ≠ (n : Int) := fun e he q => by
    have nd := (List.nodup_append.1 h.nd).2.2
    exact nd n hn e.1 (List.mem_map.2 ⟨e, he, rfl⟩) q.symm
  refine ⟨h.rd.lk lk, hw, ⟨?_, ?_, ?_, ?_⟩, ?_, ?_, ?_, ?_, ?_, ?_, ?_, ?_, ?_, ?_⟩
  · intro i hi
    rw [lk.mks] at hi
    rw [mk_lk lk, isl_lk lk, trv_lk lk]
    exact h.tr.lit i hi
  · intro x hx ht
    rw [isl_lk lk] at hx
    rw [trv_lk lk] at ht ⊢
    obtain ⟨i, a, b, c⟩ := h.tr.has x hx ht
    exact ⟨i, by rw [lk.mks]; exact a, b, by rw [mk_lk lk]; exact c⟩
  · intro i hi
    rw [lk.mks] at hi
    rw [mk_lk lk]
    exact h.tr.lo i hi
  · intro i j hij hj
    rw [lk.mks] at hj
    rw [mk_lk lk, mk_lk lk]
    exact h.tr.mono i j hij hj
  · rw [lk.fo, lk.mks]; exact h.fo
  · intro m hm y hy
    rw [lk.cl] at hm
    rw [hl] at hy
    rw [isl_lk lk]
    exact h.li m hm y hy
  · intro m hm
    rw [lk.cl] at hm
    rw [hl]
    exact hnx m hm
  · intro m hm s
    rw [lk.cl] at hm
    rw [hl]
    by_cases e : m = n
    · subst e; exact hbm s
    · rw [hby m s e]; exact h.bm m hm s
  · rw [lk.fr, lk.cl]; exact h.fr
  · rw [lk.la, lk.cl]
    intro e he
    obtain ⟨m, h1, h2, s, h3, h4⟩ := h.la e he
    have hne : m ≠ n := fun q => hla e he (by rw [h1, q])
    refine ⟨m, h1, h2, s, h3, ?_⟩
    rw [hby m s hne, hby m (1 - s) hne, trv_lk lk, falls_lk lk, since_lk lk, since_lk lk, lk.fo]
    exact h4
  · rw [lk.fr, lk.la]; exact h.nd
  · rw [lk.la]; exact h.so
  · rw [lk.la, lvl_lk lk]; exact h.top
  · rw [lk.cl, lk.fr]
    intro m hm hfr
    have hne : m ≠ n := fun q => hfr (q ▸ hn)
    rcases h.good m hm hfr with g | ⟨s, h1, h2⟩ | g
    · refine Or.inl fun s hs => ?_
      rw [hby m s hne, falls_lk lk, lk.fo]
      exact g s hs
    · refine Or.inr (Or.inl ⟨s, h1, ?_⟩)
      rw [hby m s hne, hby m (1 - s) hne, trv_lk lk, since_lk lk, since_lk lk]
      exact h2
    · exact Or.inr (Or.inr (by rw [lk.la]; exact g))
/-- a clause was looked at: nothing is to be done -/
theorem Iv.done {u : US} {f : List Int} {n : Nat} (h : Iv u) (hf : u.fr = f ++ [(n : Int)]) (hg : Good u n) : Iv { u with fr := f } := by
  have nd := h.nd
  have fr := h.fr
  have good := h.good
  rw [hf] at nd fr good
  refine ⟨⟨h.rd.n0, h.rd.nT, h.rd.nM, h.rd.tb, h.rd.t0⟩, ⟨⟨h.wo.wt.f, h.wo.wt.b⟩, h.wo.ds, h.wo.inr, h.wo.ws, h.wo.cl⟩, ⟨h.tr.lit, h.tr.has, h.tr.lo, h.tr.mono⟩, h.fo, h.li, h.nx, h.bm, fun z hz => fr z (List.mem_append_left _ hz), h.la, ?_, h.so, h.top, fun m hm hfr => ?_⟩
  · exact nd.sublist ((List.sublist_append_left f [(n : Int)]).append_right _)
  · by_cases e : m = n
    · subst e; exact hg
    · exact good m hm fun q => (List.mem_append.1 q).elim hfr fun q => e (by have := List.mem_singleton.1 q; omega)
/-- it is put down as late -/
theorem Iv.late {u : US} {f : List Int} {n : Nat} (h : Iv u) (hf : u.fr = f ++ [(n : Int)]) (hn : n < u.cl.length) (hg : LateP u n (lvlV u)) : Iv { u with fr := f, la := u.la ++ [((n : Int), lvlV u)] } := by
  have nd := h.nd
  have fr := h.fr
  have good := h.good
  rw [hf] at nd fr good
  refine ⟨⟨h.rd.n0, h.rd.nT, h.rd.nM, h.rd.tb, h.rd.t0⟩, ⟨⟨h.wo.wt.f, h.wo.wt.b⟩, h.wo.ds, h.wo.inr, h.wo.ws, h.wo.cl⟩, ⟨h.tr.lit, h.tr.has, h.tr.lo, h.tr.mono⟩, h.fo, h.li, h.nx, h.bm, fun z hz => fr z (List.mem_append_left _ hz), ?_, ?_, ?_, ?_, fun m hm hfr => ?_⟩
  · intro e he
    rcases List.mem_append.1 he with he | he
    · exact h.la e he
    · obtain rfl := List.mem_singleton.1 he
      exact ⟨n, rfl, hn, hg⟩
  · show (f ++ (u.la ++ [((n : Int), lvlV u)]).map (·.1)).Nodup
    rw [List.map_append, ← List.append_assoc]
    refine (List.Perm.nodup_iff ?_).1 nd
    rw [List.append_assoc, List.append_assoc]
    exact (List.perm_append_comm).append_left f
  · refine List.pairwise_append.2 ⟨h.so, List.pairwise_singleton _ _, fun a ha b hb => ?_⟩
    obtain rfl := List.mem_singleton.1 hb
    exact h.top a ha
  · intro e he
    rcases List.mem_append.1 he with he | he
    · exact h.top e he
    · obtain rfl := List.mem_singleton.1 he
      exact Int.le_refl _
  · by_cases e : m = n
    · subst e; exact Or.inr (Or.inr ⟨lvlV u, List.mem_append_right _ (by simp)⟩)
    · rcases good m hm fun q => (List.mem_append.1 q).elim hfr fun q => e (by have := List.mem_singleton.1 q; omega) with g | g | ⟨lv, g⟩
      · exact Or.inl g
      · exact Or.inr (Or.inl g)
      · exact Or.inr (Or.inr ⟨lv, List.mem_append_left _ g⟩)
/-- what look makes of a store, and whether the clause is not broken -/
def lookU (u : US) (n : Nat) : US × Bool :=
  if safeV u (byU u n 0) (byU u n 1) = true then (u, true) else
    let r := bestR u n (clU u n).nx.toNat
    let v := watchU (bu u n r.2) n r.1.l0 r.1.l1
    if r.1.f0 ≠ nev then (v, false) else if r.1.f1 = nev then (v, true) else
      let x := if trv v r.1.l0 = 0 then putU v r.1.l0 (lvlV v) n else v
      (if r.1.f1 ≤ (x.fo : Int) ∧ sinceV x r.1.l0 > sinceV x r.1.l1 then { x with la := x.la ++ [((n : Int), lvlV x)] } else x, true)
/-- marks were put by clauses that force them, and nothing else that is told was changed -/
structure Ex (u v : US) : Prop where
  tr : v.tr.length = u.tr.length
  cl : v.cl.length = u.cl.length
  lits : ∀ m, (clU v m).lits = (clU u m).lits
  le : u.mks.length ≤ v.mks.length
  pre : ∀ i, i < u.mks.length → mkU v i = mkU u i
  snd : ∀ i, u.mks.length ≤ i → i < v.mks.length → ∃ n : Nat, (mkU v i).r = n ∧ n < u.cl.length ∧ (mkU v i).l ∈ (clU u n).lits ∧ ∀ y ∈ (clU u n).lits, y ≠ (mkU v i).l → ∃ j, j < i ∧ (mkU v j).l = -y
theorem Ex.refl (u : US) : Ex u u := ⟨rfl, rfl, fun _ => rfl, Nat.le_refl _, fun _ _ => rfl, fun i h1 h2 => absurd h2 (by omega)⟩
theorem Ex.trans {u v x : US} (h : Ex u v) (k : Ex v x) : Ex u x := by
  have h1 := h.le
  have h2 := k.le
  refine ⟨k.tr.trans h.tr, k.cl.trans h.cl, fun m => (k.lits m).trans (h.lits m), by omega, fun i hi => (k.pre i (by omega)).trans (h.pre i hi), fun i a b => ?_⟩
  rcases Nat.lt_or_ge i v.mks.length with c | c
  · obtain ⟨n, e1, e2, e3, e4⟩ := h.snd i a c
    rw [k.pre i c]
    refine ⟨n, e1, e2, e3, fun y hy hne => ?_⟩
    obtain ⟨j, hj, e⟩ := e4 y hy hne
    exact ⟨j, hj, by rw [k.pre j (by omega)]; exact e⟩
  · obtain ⟨n, e1, e2, e3, e4⟩ := k.snd i c b
    rw [h.lits] at e3 e4
    exact ⟨n, e1, by rw [← h.cl]; exact e2, e3, e4⟩
theorem Ex.lk {u v : US} (k : Lk u v) (hl : ∀ m, (clU v m).lits = (clU u m).lits) : Ex u v :=
  ⟨by rw [k.tr], k.cl, hl, by rw [k.mks]; exact Nat.le_refl _, fun i _ => mk_lk k i, fun i h1 h2 => absurd h2 (by rw [k.mks]; omega)⟩
end Go.Proofs.Ytfodejhipnmgnaa
