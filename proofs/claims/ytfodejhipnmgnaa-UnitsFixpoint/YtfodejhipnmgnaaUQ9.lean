/-
  units: one fixpoint (pure).
-/
import Derived.Test.YtfodejhipnmgnaaUH1
namespace Go.Proofs.Ytfodejhipnmgnaa
open Go.RowKit
set_option linter.unusedVariables false
set_option linter.unusedSimpArgs false
theorem decL_same {u u' : US} {d : Nat → Int} (ht : u.tr = u'.tr) (hm : u.mks = u'.mks) : ∀ k, (decL u d k).tr = (decL u' d k).tr ∧ (decL u d k).mks = (decL u' d k).mks
  | 0 => ⟨ht, hm⟩
  | k + 1 => by
    obtain ⟨a, b⟩ := decL_same (d := d) ht hm k
    show (decF (decL u d k) (d k)).tr = (decF (decL u' d k) (d k)).tr ∧ (decF (decL u d k) (d k)).mks = (decF (decL u' d k) (d k)).mks
    generalize decL u d k = v at a b ⊢
    generalize decL u' d k = v' at a b ⊢
    have e1 : isLV v (d k) = isLV v' (d k) := by unfold isLV; rw [a]
    have e2 : trv v (d k) = trv v' (d k) := by unfold trv; rw [a]
    have e3 : lvlV v = lvlV v' := by unfold lvlV; rw [b]
    unfold decF
    rw [e1, e2]
    split
    · exact ⟨by unfold putU; simp only [a, b], by unfold putU; simp only [b, e3]⟩
    · exact ⟨a, b⟩
def Has (u : US) (L : List Int) : Prop := ∃ m, m < u.cl.length ∧ (clU u m).lits = L
theorem add_has {u : US} {l L : List Int} : Has (addU u l) L ↔ Has u L ∨ L = l := by
  have hlen : (addU u l).cl.length = u.cl.length + 1 := by simp [addU]
  constructor
  · rintro ⟨m, h1, h2⟩
    rw [hlen] at h1
    rw [add_cl] at h2
    by_cases e : m = u.cl.length
    · rw [if_pos e] at h2; exact Or.inr h2.symm
    · rw [if_neg e] at h2; exact Or.inl ⟨m, by omega, h2⟩
  · rintro (⟨m, h1, h2⟩ | rfl)
    · exact ⟨m, by omega, by rw [add_cl, if_neg (by omega)]; exact h2⟩
    · exact ⟨u.cl.length, by omega, by rw [add_cl, if_pos rfl]⟩
theorem addL_tr {u : US} {f : Nat → Cla} : ∀ k, (addL u f k).tr = u.tr
  | 0 => rfl
  | k + 1 => (addG_tr _ _).1.trans (addL_tr k)
theorem addL_len {u : US} {f : Nat → Cla} : ∀ k, (addL u f k).cl.length ≤ u.cl.length + k
  | 0 => Nat.le_refl _
  | k + 1 => by
    have := addL_len (u := u) (f := f) k
    have e := addG_len (addL u f k) (ofF (f k).n (f k).g)
    show (addG _ _).cl.length ≤ _
    omega
theorem addL_has {u : US} {f : Nat → Cla} {L : List Int} (h0 : u.cl.length = 0) : ∀ k, k ≤ 1048576 → (Has (addL u f k) L ↔ Has u L ∨ ∃ i, i < k ∧ L = ofF (f i).n (f i).g ∧ L.all (isLV u) = true)
  | 0, _ => ⟨Or.inl, fun h => h.elim id fun ⟨i, hi, _⟩ => absurd hi (by omega)⟩
  | k + 1, hk => by
    have ih := addL_has (u := u) (f := f) (L := L) h0 k (by omega)
    have hlen := addL_len (u := u) (f := f) k
    have e : isLV (addL u f k) = isLV u := funext fun x => by unfold isLV; rw [addL_tr]
    show Has (addG (addL u f k) (ofF (f k).n (f k).g)) L ↔ _
    rw [show addG (addL u f k) (ofF (f k).n (f k).g) = addF (addL u f k) (ofF (f k).n (f k).g) from if_pos (by omega)]
    unfold addF
    rw [e]
    split
    · rename_i hall
      rw [add_has, ih]
      constructor
      · rintro ((h | ⟨i, h1, h2⟩) | rfl)
        · exact Or.inl h
        · exact Or.inr ⟨i, by omega, h2⟩
        · exact Or.inr ⟨k, by omega, rfl, hall⟩
      · rintro (h | ⟨i, h1, h2, h3⟩)
        · exact Or.inl (Or.inl h)
        · by_cases q : i = k
          · subst q; exact Or.inr h2
          · exact Or.inl (Or.inr ⟨i, by omega, h2, h3⟩)
    · rename_i hall
      rw [ih]
      constructor
      · rintro (h | ⟨i, h1, h2⟩)
        · exact Or.inl h
        · exact Or.inr ⟨i, by omega, h2⟩
      · rintro (h | ⟨i, h1, h2, h3⟩)
        · exact Or.inl h
        · by_cases q : i = k
          · subst q; rw [h2] at h3; exact absurd h3 hall
          · exact Or.inr ⟨i, by omega, h2, h3⟩
theorem decL_cl {u : US} {d : Nat → Int} : ∀ k, (decL u d k).cl = u.cl
  | 0 => rfl
  | k + 1 => (decF_tr _ _).2.trans (decL_cl k)
theorem made_has {n cn : Nat} {f : Nat → Cla} {dn : Nat} {d : Nat → Int} {L : List Int} (hc : cn ≤ 1048576) : Has (madeU n cn f dn d) L ↔ ∃ i, i < cn ∧ L = ofF (f i).n (f i).g ∧ L.all (isLV (us0 n)) = true := by
  have e : (madeU n cn f dn d).cl = (addL (us0 n) f cn).cl := decL_cl dn
  have h1 : Has (madeU n cn f dn d) L ↔ Has (addL (us0 n) f cn) L := by unfold Has clU; rw [e]
  rw [h1, addL_has rfl cn hc]
  constructor
  · rintro (⟨m, h, _⟩ | h)
    · exact absurd h (by simp [us0])
    · exact h
  · exact Or.inr
/-- nothing is left to be done -/
def RestU (v : US) : Prop := v.fr = [] ∧ v.fo = v.mks.length
theorem rest_good {v : US} (h : Iv v) (hr : RestU v) {m : Nat} (hm : m < v.cl.length) : (∃ y ∈ (clU v m).lits, 0 < trv v y) ∨ ∃ y ∈ (clU v m).lits, ∃ z ∈ (clU v m).lits, y ≠ z ∧ ¬ trv v y < 0 ∧ ¬ trv v z < 0 := by
  have tr1 : ∀ s, 0 < trv v (byU v m s) → ∃ y ∈ (clU v m).lits, 0 < trv v y := fun s ht => by
    have h0 : byU v m s ≠ 0 := fun e => by rw [e, h.rd.z] at ht; omega
    exact ⟨_, (h.bm m hm s).resolve_left h0, ht⟩
  rcases h.good m hm (by rw [hr.1]; simp) with g | ⟨s, _, g, _⟩ | ⟨lv, g⟩
  · right
    have key : ∀ s, s < 2 → byU v m s ≠ 0 ∧ ¬ trv v (byU v m s) < 0 := fun s hs => by
      have g1 := g s hs
      have h0 : byU v m s ≠ 0 := fun e => by rw [e, falls_zero] at g1; omega
      refine ⟨h0, fun ht => ?_⟩
      have h2 := h.rd.tv (byU v m s)
      unfold fallsV at g1
      rw [if_neg h0, if_pos ht, hr.2] at g1
      omega
    have k0 := key 0 (by omega)
    have k1 := key 1 (by omega)
    exact ⟨_, (h.bm m hm 0).resolve_left k0.1, _, (h.bm m hm 1).resolve_left k1.1, fun e => k0.1 (h.wo.ds m e), k0.2, k1.2⟩
  · exact Or.inl (tr1 s g)
  · obtain ⟨n, e1, _, s, _, g1, _⟩ := h.la _ g
    have : n = m := by simp only at e1; omega
    subst this
    exact Or.inl (tr1 s g1)
theorem mk_true {v : US} (h : Iv v) {i : Nat} (hi : i < v.mks.length) : 0 < trv v (mkU v i).l := by rw [(h.tr.lit i hi).2]; omega
theorem neg_false {v : US} {y : Int} (hy : y ≠ 0) (h : 0 < trv v (-y)) : trv v y < 0 := by
  have := (trv_neg v y).resolve_right hy
  omega
theorem rest_true {v : US} (h : Iv v) (hr : RestU v) {m : Nat} (hm : m < v.cl.length) {x : Int} (ha : ∀ y ∈ (clU v m).lits, y ≠ x → trv v y < 0) : 0 < trv v x := by
  rcases rest_good h hr hm with ⟨y, hy, ht⟩ | ⟨y, hy, z, hz, hne, h1, h2⟩
  · by_cases e : y = x
    · rw [← e]; exact ht
    · have := ha y hy e; omega
  · by_cases e : y = x
    · exact absurd (ha z hz (fun q => hne (e.trans q.symm))) h2
    · exact absurd (ha y hy e) h1
theorem fix_in {ua va ub vb : US} (Ia : Iv va) (Ib : Iv vb) (Ea : Ex ua va) (Eb : Ex ub vb) (hm : ub.mks = ua.mks) (hc : ∀ L, Has ub L → Has ua L) (hr : RestU va) : ∀ i, i < vb.mks.length → 0 < trv va (mkU vb i).l := by
  intro i
  induction i using Nat.strongRecOn with
  | ind i ih =>
    intro hi
    rcases Nat.lt_or_ge i ub.mks.length with a | a
    · have e1 : mkU vb i = mkU va i := by
        rw [Eb.pre i a, Ea.pre i (by rw [← hm]; exact a)]
        unfold mkU
        rw [hm]
      rw [e1]
      exact mk_true Ia (by have := Ea.le; rw [hm] at a; omega)
    · obtain ⟨n, e1, e2, e3, e4⟩ := Eb.snd i a hi
      obtain ⟨m, m1, m2⟩ := hc (clU ub n).lits ⟨n, e2, rfl⟩
      have m1' : m < va.cl.length := by rw [Ea.cl]; exact m1
      have m2' : (clU va m).lits = (clU ub n).lits := (Ea.lits m).trans m2
      exact rest_true Ia hr m1' fun y hy hne => by
        have hy2 := hy
        rw [m2'] at hy2
        obtain ⟨j, hj, ej⟩ := e4 y hy2 hne
        have h1 := ih j hj (by omega)
        rw [ej] at h1
        exact neg_false (Ia.li m m1' y hy).1 h1
theorem fix_no {ua va ub vb : US} (Ia : Iv va) (Ib : Iv vb) (Ea : Ex ua va) (Eb : Ex ub vb) (hm : ub.mks = ua.mks) (hc : ∀ L, Has ub L → Has ua L) (hr : RestU va) (n : Nat) : ¬ Brk vb n := by
  rintro ⟨hn, hb⟩
  obtain ⟨m, m1, m2⟩ := hc (clU ub n).lits ⟨n, by rw [← Eb.cl]; exact hn, rfl⟩
  have m1' : m < va.cl.length := by rw [Ea.cl]; exact m1
  have m2' : (clU va m).lits = (clU vb n).lits := ((Ea.lits m).trans m2).trans (Eb.lits n).symm
  have := rest_true Ia hr m1' (x := 0) fun y hy hne => by
    have hy2 := hy
    rw [m2'] at hy2
    obtain ⟨j, hj, ej⟩ := neg_mark Ib (Ib.li n hn y hy2) (hb y hy2)
    have h1 := fix_in Ia Ib Ea Eb hm hc hr j hj
    rw [ej] at h1
    exact neg_false hne h1
  rw [Ia.rd.z] at this
  omega
theorem sub_len : ∀ (a b : List Int), a.Nodup → (∀ x ∈ a, x ∈ b) → a.length ≤ b.length
  | [], b, _, _ => Nat.zero_le _
  | x :: a, b, nd, h => by
    obtain ⟨h1, h2⟩ := List.nodup_cons.1 nd
    have hx := h x (List.mem_cons_self ..)
    have h3 := sub_len a (b.erase x) h2 fun y hy => (List.mem_erase_of_ne (fun e => by subst e; exact h1 hy)).2 (h y (List.mem_cons_of_mem _ hy))
    have h4 := List.length_erase_of_mem hx
    have h5 := List.length_pos_of_mem hx
    simp only [List.length_cons]
    omega
theorem mk_mem {v : US} {i : Nat} (hi : i < v.mks.length) : (mkU v i).l ∈ v.mks.map (·.l) := by
  refine List.mem_map.2 ⟨v.mks[i], List.getElem_mem _, ?_⟩
  simp [mkU, List.getD, List.getElem?_eq_getElem hi]
theorem lits_nodup {v : US} (h : Iv v) : (v.mks.map (·.l)).Nodup := by
  have h1 := h.tr.nodup
  unfold List.Nodup at h1 ⊢
  rw [List.pairwise_map] at h1 ⊢
  exact h1.imp fun h e => h (by rw [e])
theorem fix_len {va vb : US} (Ia : Iv va) (Ib : Iv vb) (ht : va.tr.length = vb.tr.length) (h : ∀ i, i < vb.mks.length → 0 < trv va (mkU vb i).l) : vb.mks.length ≤ va.mks.length := by
  have := sub_len (vb.mks.map (·.l)) (va.mks.map (·.l)) (lits_nodup Ib) fun x hx => by
    obtain ⟨m, hm, rfl⟩ := List.mem_map.1 hx
    obtain ⟨i, hi, rfl⟩ := List.getElem_of_mem hm
    have e : (mkU vb i).l = vb.mks[i].l := by simp [mkU, List.getD, List.getElem?_eq_getElem hi]
    have h1 := h i hi
    have h2 := (Ib.tr.lit i hi).1
    rw [e] at h1 h2
    obtain ⟨j, j1, _, j2⟩ := Ia.tr.has _ (by unfold IsL InR at h2 ⊢; rw [ht]; exact h2) h1
    rw [← j2]
    exact mk_mem j1
  simpa using this
/-- what the reference finds among the marks that were told -/
theorem pl_true {v : US} (h : Iv v) {x : Int} (hx : IsL v x) (ht : 0 < trv v x) : 0 ≤ plV v.mks x := by
  obtain ⟨j, j1, _, j2⟩ := h.tr.has x hx ht
  refine Classical.byContradiction fun hn => ?_
  exact plV_neg.1 (by omega) j j1 j2
theorem pl_not {v : US} (h : Iv v) {x : Int} (ht : ¬ 0 < trv v x) : plV v.mks x < 0 :=
  plV_neg.2 fun j hj e => ht (by have := mk_true h hj; rw [show (mkU v j).l = x from e] at this; exact this)
theorem isl_neg {v : US} {y : Int} (h : IsL v y) : IsL v (-y) := ⟨by have := h.1; omega, by obtain ⟨a, b⟩ := h.2; constructor <;> omega⟩
theorem pl_brk {v : US} (h : Iv v) {n : Nat} (hb : Brk v n) : allN (fun y => decide (0 ≤ plV v.mks (-y))) (fun j => (clU v n).lits.getD j 0) (clU v n).lits.length = true :=
  allN_true.2 fun j hj => by
    have hy : (clU v n).lits.getD j 0 ∈ (clU v n).lits := by simp [List.getD, List.getElem?_eq_getElem hj]
    have hl := h.li n hb.1 _ hy
    have h1 := (trv_neg v ((clU v n).lits.getD j 0)).resolve_right hl.1
    have h2 := hb.2 _ hy
    exact decide_eq_true (pl_true h (isl_neg hl) (by omega))
theorem pl_open {v : US} (h : Iv v) {y : Int} (hy : IsL v y) (ht : ¬ trv v y < 0) : plV v.mks (-y) < 0 := by
  have h1 := (trv_neg v y).resolve_right hy.1
  exact pl_not h (by omega)
theorem pl_rest {v : US} (h : Iv v) (hr : RestU v) {n : Nat} (hn : n < v.cl.length) :
    allN (fun y => decide (0 ≤ plV v.mks (-y))) (fun j => (clU v n).lits.getD j 0) (clU v n).lits.length = false ∧
    ∀ j, j < (clU v n).lits.length → (∃ m, m < (clU v n).lits.length ∧ (clU v n).lits.getD m 0 ≠ (clU v n).lits.getD j 0 ∧ plV v.mks (-((clU v n).lits.getD m 0)) < 0) ∨ (decide (plV v.mks ((clU v n).lits.getD j 0) < 0) && decide (plV v.mks (-((clU v n).lits.getD j 0)) < 0)) = false := by
  have at_ : ∀ y ∈ (clU v n).lits, ∃ m, m < (clU v n).lits.length ∧ (clU v n).lits.getD m 0 = y := fun y hy => by
    obtain ⟨m, hm, rfl⟩ := List.getElem_of_mem hy
    exact ⟨m, hm, by simp [List.getD, List.getElem?_eq_getElem hm]⟩
  have op : ∀ y ∈ (clU v n).lits, ¬ trv v y < 0 → plV v.mks (-y) < 0 := fun y hy ht => pl_open h (h.li n hn y hy) ht
  rcases rest_good h hr hn with ⟨y, hy, ht⟩ | ⟨y, hy, z, hz, hne, h1, h2⟩
  · obtain ⟨m, hm, e⟩ := at_ y hy
    have ho := op y hy (by omega)
    refine ⟨allN_false hm (by rw [e]; exact decide_eq_false (by omega)), fun j hj => ?_⟩
    by_cases q : (clU v n).lits.getD j 0 = y
    · right
      rw [q, show decide (plV v.mks y < 0) = false from decide_eq_false (by have := pl_true h (h.li n hn y hy) ht; omega)]
      rfl
    · exact Or.inl ⟨m, hm, by rw [e]; exact fun q2 => q q2.symm, by rw [e]; exact ho⟩
  · obtain ⟨m, hm, e⟩ := at_ y hy
    obtain ⟨m', hm', e'⟩ := at_ z hz
    refine ⟨allN_false hm (by rw [e]; exact decide_eq_false (by have := op y hy h1; omega)), fun j hj => Or.inl ?_⟩
    by_cases q : (clU v n).lits.getD j 0 = y
    · exact ⟨m', hm', by rw [e', q]; exact fun q2 => hne q2.symm, by rw [e']; exact op z hz h2⟩
    · exact ⟨m, hm, by rw [e]; exact fun q2 => q q2.symm, by rw [e]; exact op y hy h1⟩
end Go.Proofs.Ytfodejhipnmgnaa
