/-
  What Print answers, as a relation; what it says of the text that is read again.
-/
import Derived.Test.YtmgecifbimhjkaaDoorTP0
import Derived.Test.YtmgecifbimhjkaaDoorTK7
import Derived.Test.YtmgecifbimhjkaaDoorTSF
namespace Go.Proofs.YtmgecifbimhjkaaDoor
open Go.RowKit
set_option linter.unusedVariables false
set_option linter.unusedSimpArgs false

def hdk (k : Int) : ByteArray := if k = 7 then ⟨#[35, 120]⟩ else if k = 8 then ⟨#[35, 98]⟩ else ⟨#[]⟩
def lsB (s : ByteArray) : List UInt8 := s.data.toList
theorem lsB_len (s : ByteArray) : (lsB s).length = s.size := Array.length_toList
theorem lsB_app (a b : ByteArray) : lsB (a ++ b) = lsB a ++ lsB b := by
  unfold lsB
  rw [ByteArray.data_append, Array.toList_append]
theorem byS_app1 {a b : List UInt8} {k : Nat} (h : k < a.length) : byS (a ++ b) k = byS a k := by
  unfold byS
  rw [List.getD_eq_getElem?_getD, List.getD_eq_getElem?_getD, List.getElem?_append_left h]
theorem byS_app2 {a b : List UInt8} {k : Nat} (h : a.length ≤ k) : byS (a ++ b) k = byS b (k - a.length) := by
  unfold byS
  rw [List.getD_eq_getElem?_getD, List.getD_eq_getElem?_getD, List.getElem?_append_right h]
theorem byS_ls {s : ByteArray} {k : Nat} (h : k < s.size) : byS (lsB s) k = byt s k := byS_byt h
/-- a text is read as one token of this kind and this text -/
def OkT (s : ByteArray) (k : Int) (t : ByteArray) : Prop := ∃ T, (allP (lsB s)).1 = [T] ∧ (allP (lsB s)).2 = 0 ∧ (T.k : Int) = k ∧ T.t = t
/-- and it is all of the text -/
def OneT (s : ByteArray) (k : Int) (t : ByteArray) : Prop := ∃ T, (allP (lsB s)).1 = [T] ∧ (allP (lsB s)).2 = 0 ∧ (T.k : Int) = k ∧ T.t = t ∧ T.b = 0 ∧ T.e = s.size
theorem OneT.ok {s : ByteArray} {k : Int} {t : ByteArray} (h : OneT s k t) : OkT s k t := by
  obtain ⟨T, h1, h2, h3, h4, _⟩ := h
  exact ⟨T, h1, h2, h3, h4⟩
def quoS (t : ByteArray) : ByteArray := ⟨(34 :: (dbl (lsB t) ++ [34])).toArray⟩
def empS : ByteArray := ⟨#[]⟩
/-- what Print answers -/
structure PrR (k : Int) (t s : ByteArray) (c : Int) : Prop where
  sym : k = 3 → (isPl t → s = t ∧ c = 0) ∧ (¬ isPl t → hasB nbN t → s = empS ∧ c = 122) ∧ (¬ isPl t → ¬ hasB nbN t → s = barS t ∧ c = 0)
  key : k = 4 → (isPl t → s = ⟨#[58]⟩ ++ t ∧ c = 0) ∧ (¬ isPl t → s = empS ∧ c = 122)
  str : k = 9 → (hasB nqN t → s = empS ∧ c = 122) ∧ (¬ hasB nqN t → s = quoS t ∧ c = 0)
  oth : k ≠ 3 → k ≠ 4 → k ≠ 9 → (OkT (hdk k ++ t) k t → s = hdk k ++ t ∧ c = 0) ∧ (¬ OkT (hdk k ++ t) k t → s = empS ∧ c = 120)
theorem PrR.uniq {k : Int} {t s s2 : ByteArray} {c c2 : Int} (h : PrR k t s c) (h2 : PrR k t s2 c2) : s = s2 ∧ c = c2 := by
  by_cases k3 : k = 3
  · obtain ⟨a1, a2, a3⟩ := h.sym k3
    obtain ⟨b1, b2, b3⟩ := h2.sym k3
    by_cases hp : isPl t
    · exact ⟨(a1 hp).1.trans (b1 hp).1.symm, (a1 hp).2.trans (b1 hp).2.symm⟩
    · by_cases hn : hasB nbN t
      · exact ⟨(a2 hp hn).1.trans (b2 hp hn).1.symm, (a2 hp hn).2.trans (b2 hp hn).2.symm⟩
      · exact ⟨(a3 hp hn).1.trans (b3 hp hn).1.symm, (a3 hp hn).2.trans (b3 hp hn).2.symm⟩
  by_cases k4 : k = 4
  · obtain ⟨a1, a2⟩ := h.key k4
    obtain ⟨b1, b2⟩ := h2.key k4
    by_cases hp : isPl t
    · exact ⟨(a1 hp).1.trans (b1 hp).1.symm, (a1 hp).2.trans (b1 hp).2.symm⟩
    · exact ⟨(a2 hp).1.trans (b2 hp).1.symm, (a2 hp).2.trans (b2 hp).2.symm⟩
  by_cases k9 : k = 9
  · obtain ⟨a1, a2⟩ := h.str k9
    obtain ⟨b1, b2⟩ := h2.str k9
    by_cases hp : hasB nqN t
    · exact ⟨(a1 hp).1.trans (b1 hp).1.symm, (a1 hp).2.trans (b1 hp).2.symm⟩
    · exact ⟨(a2 hp).1.trans (b2 hp).1.symm, (a2 hp).2.trans (b2 hp).2.symm⟩
  obtain ⟨a1, a2⟩ := h.oth k3 k4 k9
  obtain ⟨b1, b2⟩ := h2.oth k3 k4 k9
  by_cases hp : OkT (hdk k ++ t) k t
  · exact ⟨(a1 hp).1.trans (b1 hp).1.symm, (a1 hp).2.trans (b1 hp).2.symm⟩
  · exact ⟨(a2 hp).1.trans (b2 hp).1.symm, (a2 hp).2.trans (b2 hp).2.symm⟩
theorem bts_ls (t : ByteArray) : bts (lsB t) = t := rfl
theorem one_plain {t : ByteArray} (hp : isPl t) : OneT t 3 t := by
  obtain ⟨h1, h2, h3⟩ := hp
  have hl := lsB_len t
  obtain ⟨a1, a2⟩ := one_symbol (S := lsB t) (by omega) (by rw [byS_ls h1]; exact h2) (fun k hk => by rw [byS_ls (by omega)]; exact h3 k (by omega))
  exact ⟨_, a1, a2, rfl, rfl, rfl, by show ((lsB t).length : Int) = _; rw [hl]⟩
theorem one_bars {t : ByteArray} (hn : ¬ hasB nbN t) : OneT (barS t) 3 t := by
  have hl := lsB_len t
  have e : lsB (barS t) = 124 :: (lsB t ++ [124]) := by
    unfold barS
    rw [lsB_app, lsB_app]
    rfl
  have el : (lsB (barS t)).length = t.size + 2 := by rw [e]; simp only [List.length_cons, List.length_append, List.length_nil]; omega
  have hz : (barS t).size = t.size + 2 := by rw [← lsB_len, el]
  have hin : ∀ k, 1 ≤ k → k < t.size + 1 → byS (lsB (barS t)) k = byt t (k - 1) := fun k h1 h2 => by
    rw [e, show (124 :: (lsB t ++ [124]) : List UInt8) = [124] ++ (lsB t ++ [124]) from rfl, byS_app2 (by simp; omega), byS_app1 (by simp only [List.length_cons, List.length_nil]; omega), byS_ls (by simp only [List.length_cons, List.length_nil]; omega)]
    rfl
  have hlast : byS (lsB (barS t)) (t.size + 1) = 124 := by
    rw [e, show (124 :: (lsB t ++ [124]) : List UInt8) = ([124] ++ lsB t) ++ [124] from rfl, byS_app2 (by simp only [List.length_append, List.length_cons, List.length_nil]; omega)]
    have : t.size + 1 - ([124] ++ lsB t).length = 0 := by simp only [List.length_append, List.length_cons, List.length_nil]; omega
    rw [this]
    rfl
  obtain ⟨a1, a2⟩ := one_barred (S := lsB (barS t)) (by omega) (by rw [e]; rfl) (fun k h1 h2 => by
    rw [hin k h1 (by omega)]
    rcases hb : nbN (byt t (k - 1)) with _ | _
    · rfl
    · exact absurd ⟨k - 1, by omega, hb⟩ hn) (by rw [el]; exact hlast)
  have ht : bts (subS (lsB (barS t)) 1 ((lsB (barS t)).length - 1)) = t := by
    rw [el, e]
    unfold subS
    have : (124 :: (lsB t ++ [124]) : List UInt8).drop 1 = lsB t ++ [124] := rfl
    rw [this, show t.size + 2 - 1 - 1 = (lsB t).length by omega, List.take_left']
    · rfl
    · rfl
  exact ⟨_, a1, a2, rfl, ht, rfl, by show ((lsB (barS t)).length : Int) = _; rw [el, hz]⟩
theorem one_key {t : ByteArray} (hp : isPl t) : OneT (⟨#[58]⟩ ++ t) 4 t := by
  obtain ⟨h1, h2, h3⟩ := hp
  have hl := lsB_len t
  have e : lsB (⟨#[58]⟩ ++ t) = 58 :: lsB t := by rw [lsB_app]; rfl
  have el : (lsB (⟨#[58]⟩ ++ t)).length = t.size + 1 := by rw [e]; simp only [List.length_cons]; omega
  have hz : ((⟨#[58]⟩ : ByteArray) ++ t).size = t.size + 1 := by rw [← lsB_len, el]
  have hin : ∀ k, 1 ≤ k → k < t.size + 1 → byS (lsB (⟨#[58]⟩ ++ t)) k = byt t (k - 1) := fun k h1 h2 => by
    rw [e, show (58 :: lsB t : List UInt8) = [58] ++ lsB t from rfl, byS_app2 (by simp; omega), byS_ls (by simp only [List.length_cons, List.length_nil]; omega)]
    rfl
  obtain ⟨a1, a2⟩ := one_keyword (S := lsB (⟨#[58]⟩ ++ t)) (by omega) (by rw [e]; rfl) (by rw [hin 1 (by omega) (by omega)]; exact h2) (fun k q1 q2 => by rw [hin k q1 (by omega)]; exact h3 (k - 1) (by omega))
  exact ⟨_, a1, a2, rfl, by show bts ((lsB (⟨#[58]⟩ ++ t)).drop 1) = t; rw [e]; rfl, rfl, by show ((lsB (⟨#[58]⟩ ++ t)).length : Int) = _; rw [el, hz]⟩
theorem one_quo {t : ByteArray} (hn : ¬ hasB nqN t) : OneT (quoS t) 9 t := by
  have e : lsB (quoS t) = 34 :: (dbl (lsB t) ++ [34]) := rfl
  obtain ⟨a1, a2⟩ := one_string (lsB t) (fun u hu => by
    obtain ⟨k, hk, hg⟩ := List.getElem_of_mem hu
    rcases hb : nqN u.toNat with _ | _
    · rfl
    · exfalso
      have hk2 : k < t.size := by rw [← lsB_len]; exact hk
      exact hn ⟨k, hk2, by rw [← byS_ls hk2, byS_at hk, hg]; exact hb⟩)
  exact ⟨_, a1, a2, rfl, rfl, rfl, by show ((34 :: (dbl (lsB t) ++ [34]) : List UInt8).length : Int) = _; rw [← e, lsB_len]⟩
theorem ok_kind {s t : ByteArray} {k : Int} (h : OkT s k t) : 1 ≤ k ∧ k ≤ 9 := by
  obtain ⟨T, h1, _, h3, _⟩ := h
  obtain ⟨i, k', e, t', _, _, rfl, hz⟩ := first_tok h1
  have h3' : (k' : Int) = k := h3
  have := hz.1
  omega
theorem ok_one {t : ByteArray} {k : Int} (h : OkT (hdk k ++ t) k t) (k3 : k ≠ 3) (k4 : k ≠ 4) (k9 : k ≠ 9) : OneT (hdk k ++ t) k t := by
  have hk := ok_kind h
  obtain ⟨T, h1, h2, h3, h4⟩ := h
  obtain ⟨i, k', e, t', q1, q2, rfl, hz⟩ := first_tok h1
  have h3' : (k' : Int) = k := h3
  have h4' : t' = t := h4
  have hl : (lsB (hdk k ++ t)).length = (hdk k).size + t.size := by rw [lsB_app, List.length_append, lsB_len, lsB_len]
  have hs : (hdk k ++ t).size = (hdk k).size + t.size := by rw [← lsB_len, hl]
  have key : i = 0 ∧ e = (lsB (hdk k ++ t)).length := by
    obtain ⟨_, z1, z2⟩ := hz
    by_cases h78 : k = 7 ∨ k = 8
    · have hd : (hdk k).size = 2 := by
        unfold hdk
        rcases h78 with c | c
        · rw [if_pos c]; rfl
        · rw [if_neg (by omega), if_pos c]; rfl
      have := z2 (by omega)
      rw [h4'] at this
      omega
    · have hd : (hdk k).size = 0 := by
        unfold hdk
        rw [if_neg (by omega), if_neg (by omega)]; rfl
      have := z1 (by omega)
      rw [h4'] at this
      omega
  exact ⟨_, h1, h2, h3, h4, by show (i : Int) = 0; omega, by show (e : Int) = _; rw [key.2, hl, hs]⟩
/-- what Print says is read as the token, alone -/
theorem PrR.one {k : Int} {t s : ByteArray} (h : PrR k t s 0) : OneT s k t := by
  by_cases k3 : k = 3
  · obtain ⟨a1, a2, a3⟩ := h.sym k3
    by_cases hp : isPl t
    · rw [(a1 hp).1, k3]; exact one_plain hp
    · by_cases hn : hasB nbN t
      · exact absurd (a2 hp hn).2 (by decide)
      · rw [(a3 hp hn).1, k3]; exact one_bars hn
  by_cases k4 : k = 4
  · obtain ⟨a1, a2⟩ := h.key k4
    by_cases hp : isPl t
    · rw [(a1 hp).1, k4]; exact one_key hp
    · exact absurd (a2 hp).2 (by decide)
  by_cases k9 : k = 9
  · obtain ⟨a1, a2⟩ := h.str k9
    by_cases hp : hasB nqN t
    · exact absurd (a1 hp).2 (by decide)
    · rw [(a2 hp).1, k9]; exact one_quo hp
  obtain ⟨a1, a2⟩ := h.oth k3 k4 k9
  by_cases hp : OkT (hdk k ++ t) k t
  · rw [(a1 hp).1]; exact ok_one hp k3 k4 k9
  · exact absurd (a2 hp).2 (by decide)
end Go.Proofs.YtmgecifbimhjkaaDoor
