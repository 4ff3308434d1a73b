/-
  Printed tokens with blanks between them are read as the same tokens: without memory.
-/
import Derived.Test.YtpfmamimhhnbiaaGreatDoorTP1
namespace Go.Proofs.YtpfmamimhhnbiaaGreatDoor
open Go.RowKit
set_option linter.unusedVariables false
set_option linter.unusedSimpArgs false

/-- a token that can be printed -/
def PrOk (k : Int) (t : ByteArray) : Prop := ∃ s, PrR k t s 0
theorem prok_sym {t : ByteArray} (h : isPl t ∨ ¬ hasB nbN t) : PrOk 3 t := by
  by_cases hp : isPl t
  · exact ⟨t, ⟨fun _ => ⟨fun _ => ⟨rfl, rfl⟩, fun c => absurd hp c, fun c => absurd hp c⟩, fun e => absurd e (by decide), fun e => absurd e (by decide), fun e => absurd rfl e⟩⟩
  · rcases h with h | h
    · exact absurd h hp
    · exact ⟨barS t, ⟨fun _ => ⟨fun c => absurd c hp, fun _ c => absurd c h, fun _ _ => ⟨rfl, rfl⟩⟩, fun e => absurd e (by decide), fun e => absurd e (by decide), fun e => absurd rfl e⟩⟩
theorem prok_key {t : ByteArray} (h : isPl t) : PrOk 4 t :=
  ⟨_, ⟨fun e => absurd e (by decide), fun _ => ⟨fun _ => ⟨rfl, rfl⟩, fun c => absurd h c⟩, fun e => absurd e (by decide), fun _ e => absurd rfl e⟩⟩
theorem prok_str {t : ByteArray} (h : ¬ hasB nqN t) : PrOk 9 t :=
  ⟨_, ⟨fun e => absurd e (by decide), fun e => absurd e (by decide), fun _ => ⟨fun c => absurd c h, fun _ => ⟨rfl, rfl⟩⟩, fun _ _ e => absurd rfl e⟩⟩
theorem prok_oth {k : Int} {t : ByteArray} (h3 : k ≠ 3) (h4 : k ≠ 4) (h9 : k ≠ 9) (h : OkT (hdk k ++ t) k t) : PrOk k t :=
  ⟨_, ⟨fun e => absurd e h3, fun e => absurd e h4, fun e => absurd e h9, fun _ _ _ => ⟨fun _ => ⟨rfl, rfl⟩, fun c => absurd h c⟩⟩⟩
theorem byt_bts {l : List UInt8} {k : Nat} (h : k < l.length) : byt (bts l) k = byS l k := by
  have hz : k < (bts l).size := by rw [bts_size]; exact h
  rw [← byS_ls hz]
  rfl
theorem byS_sub {S : List UInt8} {i e j : Nat} (h : j < e - i) : byS (subS S i e) j = byS S (i + j) := by
  unfold byS subS
  rw [List.getD_eq_getElem?_getD, List.getD_eq_getElem?_getD, List.getElem?_take, if_pos h, List.getElem?_drop]
theorem runE_all_in {f : Nat → Bool} {S : List UInt8} (i k : Nat) (h1 : i ≤ k) (h2 : k < runE f S i) (hi : i ≤ S.length) : f (byS S k) = true := by
  by_cases h : i < S.length ∧ f (byS S i) = true
  · rw [runE_on h.1 h.2] at h2
    by_cases e : i = k
    · rw [← e]; exact h.2
    · exact runE_all_in (i + 1) k (by omega) h2 (by omega)
  · rw [runE_off h] at h2; omega
termination_by S.length - i
decreasing_by omega
/-- digits of a piece of the text -/
theorem runE_sub {f : Nat → Bool} {S : List UInt8} {i e : Nat} (he : e ≤ S.length) (hie : i ≤ e) (j : Nat) (hj : j ≤ e - i) : runE f (subS S i e) j = min (runE f S (i + j)) e - i := by
  have hl : (subS S i e).length = e - i := subS_len hie he
  by_cases h : j < e - i
  · have hb := byS_sub (S := S) h
    by_cases hf : f (byS S (i + j)) = true
    · rw [runE_on (by omega) (by rw [hb]; exact hf), runE_on (i := i + j) (by omega) hf, runE_sub he hie (j + 1) (by omega), Nat.add_assoc]
    · rw [runE_off (fun c => hf (by rw [← hb]; exact c.2)), runE_off (i := i + j) (fun c => hf c.2)]
      omega
  · rw [runE_off (fun c => by rw [hl] at c; omega)]
    have := (runE_spec f S (i + j) (by omega)).1
    omega
termination_by e - i - j
decreasing_by omega
theorem subS_sub {S : List UInt8} {i e : Nat} (he : e ≤ S.length) (hie : i ≤ e) (j : Nat) : subS (subS S i e) j (e - i) = subS S (i + j) e := by
  unfold subS
  rw [List.drop_take, List.drop_drop, List.take_take, show min (e - i - j) (e - i - j) = e - (i + j) by omega]
theorem lsB_bts (l : List UInt8) : lsB (bts l) = l := rfl
/-- a number, alone -/
theorem num_alone {S : List UInt8} {i k e : Nat} {t : ByteArray} {self : Bool} (hi : i < S.length) (hd : dgN (byS S i) = true) (h : numP S i = .tok k t e self) : (k = 5 ∨ k = 6) ∧ i < e ∧ e ≤ S.length ∧ t = bts (subS S i e) ∧ numP (subS S i e) 0 = .tok k t (e - i) false := by
  have hr := runE_spec dgN S i (by omega)
  have hr1 : i + 1 ≤ runE dgN S i := by rw [runE_on hi hd]; exact (runE_spec dgN S (i + 1) (by omega)).1
  have nue : ∀ kk ee, nueP S i kk ee = .tok k t e self → kk = k ∧ ee = e ∧ t = bts (subS S i e) := fun kk ee hh => by
    unfold nueP at hh
    split at hh
    · cases hh
    · injection hh with g1 g2 g3 g4
      subst g3
      exact ⟨g1, rfl, g2.symm⟩
  unfold numP at h
  split at h
  · cases h
  rename_i h48
  unfold nubP at h
  split at h
  · rename_i hdot
    split at h
    · cases h
    split at h
    · cases h
    rename_i hne1 hne2
    obtain ⟨e1, e2, e3⟩ := nue 6 _ h
    have hr2 := runE_spec dgN S (runE dgN S i + 1) (by omega)
    have hie : i ≤ e := by omega
    have hel : e ≤ S.length := by omega
    have hl : (subS S i e).length = e - i := subS_len hie hel
    have q0 : runE dgN (subS S i e) 0 = runE dgN S i - i := by rw [runE_sub hel hie 0 (by omega), Nat.add_zero]; omega
    have q1 : runE dgN (subS S i e) (runE dgN S i - i + 1) = e - i := by
      rw [runE_sub hel hie _ (by omega), show i + (runE dgN S i - i + 1) = runE dgN S i + 1 by omega, e2]
      omega
    refine ⟨by omega, by omega, hel, e3, ?_⟩
    unfold numP
    rw [q0, byS_sub (by omega), Nat.add_zero, if_neg (fun c => h48 ⟨c.1, by omega⟩)]
    unfold nubP
    rw [if_pos ⟨by omega, by rw [byS_sub (by omega), show i + (runE dgN S i - i) = runE dgN S i by omega]; exact hdot.2⟩, if_neg (by omega), q1, if_neg (by omega)]
    unfold nueP
    rw [if_neg (fun c => by omega), e1, e3]
    congr 1
    have := subS_sub hel hie 0
    rw [Nat.add_zero] at this
    rw [this]
  · rename_i hdot
    obtain ⟨e1, e2, e3⟩ := nue 5 _ h
    have hie : i ≤ e := by omega
    have hel : e ≤ S.length := by omega
    have hl : (subS S i e).length = e - i := subS_len hie hel
    have q0 : runE dgN (subS S i e) 0 = e - i := by rw [runE_sub hel hie 0 (by omega), Nat.add_zero]; omega
    refine ⟨by omega, by omega, hel, e3, ?_⟩
    unfold numP
    rw [q0, byS_sub (by omega), Nat.add_zero, if_neg (fun c => h48 ⟨c.1, by omega⟩)]
    unfold nubP
    rw [if_neg (fun c => by omega)]
    unfold nueP
    rw [if_neg (fun c => by omega), e1, e3]
    congr 1
    have := subS_sub hel hie 0
    rw [Nat.add_zero] at this
    rw [this]
theorem shq_alone {S : List UInt8} {i k kk e : Nat} {t : ByteArray} {self : Bool} {f : Nat → Bool} (hi : i + 2 ≤ S.length) (h : shqP S i kk (runE f S (i + 2)) = .tok k t e self) : kk = k ∧ i + 2 < e ∧ e ≤ S.length ∧ t = bts (subS S (i + 2) e) ∧ shqP (subS S i e) 0 k (runE f (subS S i e) 2) = .tok k t (e - i) false := by
  have hr := runE_spec f S (i + 2) hi
  have key : ∀ ee, ee ≠ i + 2 → ee = runE f S (i + 2) → Seen.tok kk (bts (subS S (i + 2) ee)) ee false = .tok k t e self → kk = k ∧ i + 2 < e ∧ e ≤ S.length ∧ t = bts (subS S (i + 2) e) ∧ shqP (subS S i e) 0 k (runE f (subS S i e) 2) = .tok k t (e - i) false := fun ee hne hee hh => by
    injection hh with g1 g2 g3 g4
    subst g3
    have hie : i ≤ ee := by omega
    have hel : ee ≤ S.length := by omega
    have hl : (subS S i ee).length = ee - i := subS_len hie hel
    have q0 : runE f (subS S i ee) 2 = ee - i := by rw [runE_sub hel hie 2 (by omega), ← hee]; omega
    refine ⟨g1, by omega, hel, g2.symm, ?_⟩
    unfold shqP
    rw [q0, if_pos hl.symm, if_neg (by omega), ← g2]
    congr 1
    rw [Nat.zero_add, subS_sub hel hie 2]
  unfold shqP at h
  split at h
  · split at h
    · cases h
    · rename_i h1 h2
      exact key _ h2 rfl h
  · split at h
    · cases h
    · rename_i h1 h2
      exact key _ (fun c => h2 (Or.inl c)) rfl h
theorem okT_of {s : ByteArray} {k : Nat} {t : ByteArray} {self : Bool} (h0 : 0 < (lsB s).length) (hs : 4 < startN (byS (lsB s) 0)) (hl : lookP (lsB s) 0 = .tok k t (lsB s).length self) : OkT s k t := by
  obtain ⟨a1, a2⟩ := all_one h0 hs hl
  exact ⟨_, a1, a2, rfl, rfl⟩
/-- what is quoted may be quoted -/
theorem qtP_ok {S : List UInt8} (j : Nat) (l : List UInt8) {k e : Nat} {t : ByteArray} {self : Bool} (hl : ∀ u ∈ l, nqN u.toNat = false) (h : qtP S j l = .tok k t e self) : ∃ m, t = bts m ∧ ∀ u ∈ m, nqN u.toNat = false := by
  rw [qtP] at h
  split at h
  · rename_i hj
    split at h
    · split at h
      · exact qtP_ok (j + 2) _ (fun u hu => by rcases List.mem_append.1 hu with c | c; exact hl u c; rw [List.mem_singleton.1 c]; decide) h
      · injection h with g1 g2 g3 g4
        exact ⟨l, g2.symm, hl⟩
    · split at h
      · cases h
      · rename_i hn
        exact qtP_ok (j + 1) _ (fun u hu => by
          rcases List.mem_append.1 hu with c | c
          · exact hl u c
          · rw [List.mem_singleton.1 c, ← byS_at hj]
            rcases hb : nqN (byS S j) with _ | _
            · rfl
            · exact absurd hb hn) h
  · cases h
termination_by S.length - j
decreasing_by all_goals omega
theorem barP_ok {S : List UInt8} (i j : Nat) {k e : Nat} {t : ByteArray} {self : Bool} (hij : i < j) (hl : ∀ q, i < q → q < j → nbN (byS S q) = false) (h : barP S i j = .tok k t e self) : ∃ r, t = bts (subS S (i + 1) r) ∧ r < S.length ∧ i < r ∧ ∀ q, i < q → q < r → nbN (byS S q) = false := by
  rw [barP] at h
  split at h
  · rename_i hj
    split at h
    · injection h with g1 g2 g3 g4
      exact ⟨j, g2.symm, hj, hij, hl⟩
    · split at h
      · cases h
      · rename_i hn
        exact barP_ok i (j + 1) (by omega) (fun q q1 q2 => by
          by_cases e : q = j
          · rw [e]
            rcases hb : nbN (byS S j) with _ | _
            · rfl
            · exact absurd hb hn
          · exact hl q q1 (by omega)) h
  · cases h
termination_by S.length - j
decreasing_by all_goals omega
theorem nb_of {S : List UInt8} {a r : Nat} {f : Nat → Bool} (hr : r ≤ S.length) (har : a ≤ r) (h : ∀ q, a ≤ q → q < r → f (byS S q) = false) : ¬ hasB f (bts (subS S a r)) := fun ⟨k, hk, hc⟩ => by
  rw [bts_size, subS_len har hr] at hk
  rw [byt_bts (by rw [subS_len har hr]; exact hk), byS_sub hk, h (a + k) (by omega) (by omega)] at hc
  exact absurd hc (by decide)
theorem pl_of {S : List UInt8} {a r : Nat} (hr : r ≤ S.length) (har : a < r) (hd : dgN (byS S a) = false) (h : ∀ q, a ≤ q → q < r → syN (byS S q) = true) : isPl (bts (subS S a r)) := by
  have hl : (subS S a r).length = r - a := subS_len (by omega) hr
  refine ⟨by rw [bts_size, hl]; omega, ?_, fun k hk => ?_⟩
  · rw [byt_bts (by rw [hl]; omega), byS_sub (by omega), Nat.add_zero]; exact hd
  · rw [bts_size, hl] at hk
    rw [byt_bts (by rw [hl]; exact hk), byS_sub hk]
    exact h (a + k) (by omega) (by omega)
theorem hdk_other {k : Int} (h7 : k ≠ 7) (h8 : k ≠ 8) (t : ByteArray) : hdk k ++ t = t := by
  unfold hdk
  rw [if_neg h7, if_neg h8]
  apply ByteArray.ext
  rw [ByteArray.data_append]
  simp
theorem sub_two {S : List UInt8} {i e : Nat} (h : i + 2 ≤ e) (he : e ≤ S.length) : subS S i e = S[i] :: S[i + 1] :: subS S (i + 2) e := by
  unfold subS
  rw [List.drop_eq_getElem_cons (by omega : i < S.length), List.drop_eq_getElem_cons (by omega : i + 1 < S.length), show e - i = (e - (i + 2)) + 1 + 1 by omega]
  rfl
/-- what is seen can be printed -/
theorem look_print {S : List UInt8} {i k e : Nat} {t : ByteArray} {self : Bool} (hi : i < S.length) (hs : 4 < startN (byS S i)) (h : lookP S i = .tok k t e self) : PrOk k t := by
  unfold lookP at h
  split at h
  · injection h with g1 g2 g3 g4
    subst g1; subst g2
    exact prok_oth (by decide) (by decide) (by decide) ⟨_, rfl, rfl, rfl, rfl⟩
  split at h
  · injection h with g1 g2 g3 g4
    subst g1; subst g2
    exact prok_oth (by decide) (by decide) (by decide) ⟨_, rfl, rfl, rfl, rfl⟩
  split at h
  · have hk := qtP_kind _ _ h
    subst hk
    obtain ⟨m, rfl, hm⟩ := qtP_ok _ _ (fun u hu => absurd hu (by simp)) h
    refine prok_str (fun ⟨q, hq, hc⟩ => ?_)
    rw [bts_size] at hq
    rw [byt_bts hq, byS_at hq, hm _ (List.getElem_mem hq)] at hc
    exact absurd hc (by decide)
  split at h
  · have hk := barP_kind _ _ h
    subst hk
    obtain ⟨r, rfl, r1, r2, r3⟩ := barP_ok i (i + 1) (by omega) (fun q q1 q2 => by omega) h
    exact prok_sym (Or.inr (nb_of (by omega) (by omega) (fun q q1 q2 => r3 q (by omega) q2)))
  split at h
  · unfold keyP at h
    split at h
    · cases h
    rename_i hne
    split at h
    · cases h
    rename_i hsy
    injection h with g1 g2 g3 g4
    subst g1; subst g2
    have hsy2 : syN (byS S (i + 1)) = true ∧ dgN (byS S (i + 1)) = false := Classical.byContradiction (fun c => hsy c)
    have hr := runE_spec syN S (i + 1) (by omega)
    have hr1 : i + 2 ≤ runE syN S (i + 1) := by rw [runE_on (by omega) hsy2.1]; exact (runE_spec syN S (i + 2) (by omega)).1
    exact prok_key (pl_of hr.2.1 (by omega) hsy2.2 (fun q q1 q2 => runE_all_in (i + 1) q q1 q2 (by omega)))
  split at h
  · rename_i h35
    unfold shpP at h
    split at h
    · cases h
    rename_i hne
    have hi1 : i + 1 < S.length := by omega
    have one : ∀ (kk c : Nat) (f : Nat → Bool) (u : UInt8), byS S (i + 1) = c → u.toNat = c → (kk = 7 ∧ c = 120 ∧ f = hxN ∨ kk = 8 ∧ c = 98 ∧ f = biN) → hdk kk = ⟨#[35, u]⟩ → shqP S i kk (runE f S (i + 2)) = .tok k t e self → PrOk k t := fun kk c f u hc hu hk hh hq => by
      obtain ⟨e1, e2, e3, e4, e5⟩ := shq_alone (by omega) hq
      subst e1
      have hS0 : S[i] = 35 := u8_of (by rw [← byS_at hi]; exact h35) (by decide)
      have hS1 : S[i + 1] = u := UInt8.toNat_inj.1 (by rw [← byS_at hi1, hc, hu])
      have es : lsB (hdk kk ++ t) = subS S i e := by
        rw [lsB_app, hh, sub_two (by omega) e3, hS0, hS1, e4]
        rfl
      have hl : (subS S i e).length = e - i := subS_len (by omega) e3
      have hb0 : byS (subS S i e) 0 = 35 := by rw [byS_sub (by omega), Nat.add_zero]; exact h35
      have hb1 : byS (subS S i e) (0 + 1) = c := by rw [byS_sub (by omega)]; exact hc
      refine prok_oth (by omega) (by omega) (by omega) (okT_of (self := false) (by rw [es]; omega) (by rw [es, hb0]; decide) ?_)
      rw [es, hl]
      unfold lookP
      rw [hb0, if_neg (by decide), if_neg (by decide), if_neg (by decide), if_neg (by decide), if_neg (by decide), if_pos rfl]
      unfold shpP
      rw [if_neg (by omega), hb1]
      rcases hk with ⟨rfl, rfl, rfl⟩ | ⟨rfl, rfl, rfl⟩
      · rw [if_pos rfl]; exact e5
      · rw [if_neg (by decide), if_pos rfl]; exact e5
    split at h
    · rename_i hc; exact one 7 120 hxN 120 hc rfl (Or.inl ⟨rfl, rfl, rfl⟩) rfl h
    split at h
    · rename_i hc; exact one 8 98 biN 98 hc rfl (Or.inr ⟨rfl, rfl, rfl⟩) rfl h
    · cases h
  split at h
  · rename_i h40 h41 h34 h124 h58 h35 hd
    obtain ⟨k56, e1, e2, e3, e4⟩ := num_alone hi hd h
    have hl : (subS S i e).length = e - i := subS_len (by omega) e2
    have hb0 : byS (subS S i e) 0 = byS S i := by rw [byS_sub (by omega), Nat.add_zero]
    refine prok_oth (by omega) (by omega) (by omega) ?_
    rw [hdk_other (by omega) (by omega), e3]
    rw [e3] at e4
    refine okT_of (self := false) (by rw [lsB_bts]; omega) (by rw [lsB_bts, hb0]; exact hs) ?_
    rw [lsB_bts, hl]
    unfold lookP
    rw [hb0, if_neg h40, if_neg h41, if_neg h34, if_neg h124, if_neg h58, if_neg h35, if_pos hd]
    exact e4
  split at h
  · rename_i hd hsy
    injection h with g1 g2 g3 g4
    subst g1; subst g2
    have hr := runE_spec syN S i (by omega)
    have hr1 : i + 1 ≤ runE syN S i := by rw [runE_on hi hsy]; exact (runE_spec syN S (i + 1) (by omega)).1
    refine prok_sym (Or.inl (pl_of hr.2.1 (by omega) ?_ (fun q q1 q2 => runE_all_in i q q1 q2 (by omega))))
    rcases hb : dgN (byS S i) with _ | _
    · rfl
    · exact absurd hb hd
  · cases h
end Go.Proofs.YtpfmamimhhnbiaaGreatDoor

namespace Go.Proofs.YtpfmamimhhnbiaaGreatDoor
open Go.RowKit
set_option linter.unusedVariables false
set_option linter.unusedSimpArgs false

def KT (l : List Tok) : List (Nat × ByteArray) := l.map fun T => (T.k, T.t)
theorem KT_app (a b : List Tok) : KT (a ++ b) = KT a ++ KT b := by simp [KT]
/-- the same, but for the places -/
def Sim (p q : PS) : Prop := p.st = q.st ∧ p.buf = q.buf
def SimO : Out → Out → Prop
  | .ok p, .ok q => Sim p q
  | .bad _ _ _, .bad _ _ _ => True
  | _, _ => False
theorem Sim.tok {p q : PS} (h : Sim p q) (a b : Nat) : (p.tok a).k = (q.tok b).k ∧ (p.tok a).t = (q.tok b).t := by
  unfold PS.tok
  rw [h.1, h.2]
  exact ⟨rfl, rfl⟩
theorem Sim.nrm {p q : PS} (h : Sim p q) : Sim p.nrm q.nrm := by
  unfold PS.nrm
  rw [h.1]
  split
  · exact ⟨rfl, rfl⟩
  · exact h
theorem Sim.beg {p q : PS} (h : Sim p q) : Sim p.beg q.beg := by
  unfold PS.beg
  rw [h.1]
  split
  · exact ⟨rfl, rfl⟩
  · exact h
theorem Sim.cut {p q : PS} (h : Sim p q) (r : Nat) : Sim (p.cut r) (q.cut r) := by
  unfold PS.cut
  rw [h.1]
  split
  · exact ⟨rfl, rfl⟩
  · exact h
theorem Sim.told {p q : PS} (h : Sim p q) (r : Nat) : KT (p.told r) = KT (q.told r) := by
  unfold PS.told
  rw [h.1]
  split
  · have := h.tok p.rd q.rd
    simp only [KT, List.map]
    rw [this.1, this.2]
  · rfl
theorem Sim.char {p q : PS} (h : Sim p q) (r : Nat) (us : List UInt8) : KT (charP p r us).1 = KT (charP q r us).1 ∧ SimO (charP p r us).2 (charP q r us).2 := by
  have ht := h.told r
  have hc := (h.cut r).beg
  unfold charP
  rw [h.1]
  generalize (p.cut r).beg = P at hc
  generalize (q.cut r).beg = Q at hc
  by_cases h24 : nxt q.st r = 24
  · rw [if_pos h24, if_pos h24]; exact ⟨ht, trivial⟩
  rw [if_neg h24, if_neg h24]
  by_cases h25 : nxt q.st r = 25
  · rw [if_pos h25, if_pos h25]; exact ⟨ht, trivial⟩
  rw [if_neg h25, if_neg h25]
  by_cases h5 : nxt q.st r = 5 ∨ nxt q.st r = 6 ∨ nxt q.st r = 9
  · rw [if_pos h5, if_pos h5]
    have hs : Sim (P.add (nxt q.st r) us) (Q.add (nxt q.st r) us) := ⟨rfl, by show P.buf ++ us = Q.buf ++ us; rw [hc.2]⟩
    have hk := hs.tok (p.rd + us.length) (q.rd + us.length)
    refine ⟨?_, ?_⟩
    · rw [KT_app, KT_app, ht]
      simp only [KT, List.map]
      rw [hk.1, hk.2]
    · exact Sim.nrm (show Sim { P.add (nxt q.st r) us with st := 3 } { Q.add (nxt q.st r) us with st := 3 } from ⟨rfl, hs.2⟩)
  rw [if_neg h5, if_neg h5]
  have hs : Sim (P.add (nxt q.st r) us) (Q.add (nxt q.st r) us) := ⟨rfl, by show P.buf ++ us = Q.buf ++ us; rw [hc.2]⟩
  by_cases h10 : r = 10
  · rw [if_pos h10, if_pos h10]
    exact ⟨ht, Sim.nrm (show Sim { P.add (nxt q.st r) us with ln := p.ln + 1, ah := p.rd + us.length } { Q.add (nxt q.st r) us with ln := q.ln + 1, ah := q.rd + us.length } from ⟨hs.1, hs.2⟩)⟩
  · rw [if_neg h10, if_neg h10]
    exact ⟨ht, hs.nrm⟩
theorem Sim.feed {p q : PS} (h : Sim p q) (bs : List UInt8) : KT (feedP p bs).1 = KT (feedP q bs).1 ∧ SimO (feedP p bs).2 (feedP q bs).2 := by
  induction bs generalizing p q with
  | nil => exact ⟨rfl, h⟩
  | cons u us ih =>
    have hc := h.char u.toNat [u]
    simp only [feedP]
    rcases h1 : charP p u.toNat [u] with ⟨t1, o1⟩
    rcases h2 : charP q u.toNat [u] with ⟨t2, o2⟩
    rw [h1, h2] at hc
    cases o1 with
    | bad B L C =>
      cases o2 with
      | bad B2 L2 C2 => exact hc
      | ok q2 => exact absurd hc.2 (fun c => c)
    | ok p1 =>
      cases o2 with
      | bad B2 L2 C2 => exact absurd hc.2 (fun c => c)
      | ok q2 =>
        obtain ⟨i1, i2⟩ := ih (show Sim p1 q2 from hc.2)
        simp only
        rw [KT_app, KT_app, i1, hc.1]
        exact ⟨rfl, i2⟩
theorem fol_blank : ∀ st ∈ waits, kindN st ≠ 0 → folN st 32 = 23 := by decide
/-- one token, and a blank behind it -/
theorem one_blank {s : ByteArray} {k : Int} {t : ByteArray} (h : OneT s k t) : ∃ T q, feedP pI (lsB s ++ [32]) = ([T], .ok q) ∧ (T.k : Int) = k ∧ T.t = t ∧ Sim q pI := by
  obtain ⟨T, h1, h2, h3, h4, h5, h6⟩ := h
  have hi := Inv_pI
  rcases hf : feedP pI (lsB s) with ⟨ts, o⟩
  have hap : allP (lsB s) = (match (ts, o) with | (ts, .bad _ _ _) => (ts, 120) | (ts, .ok q) => (ts ++ (endP q).1, (endP q).2)) := by unfold allP; rw [hf]; rfl
  cases o with
  | bad B L C =>
    rw [hap] at h2
    exact absurd (show (120 : Int) = 0 from h2) (by decide)
  | ok q =>
    rw [hap] at h1 h2
    simp only at h1 h2
    have hw := (feed_rd (lsB s) hi hf).1
    have happ : feedP pI (lsB s ++ [32]) = (ts ++ (charP q 32 [32]).1, (charP q 32 [32]).2) := by
      rw [feedP_app, hf]
      simp only
      rw [feedP_one]
      rfl
    rw [happ]
    by_cases h8 : q.st = 8 ∨ q.st = 21
    · unfold endP at h2
      rw [if_pos h8] at h2
      exact absurd h2 (by decide)
    by_cases hk : kindN q.st ≠ 0
    · have he : endP q = ([q.tok q.rd], 0) := by unfold endP; rw [if_neg h8, if_pos hk]
      rw [he] at h1
      have hts : ts = [] := by
        cases ts with
        | nil => rfl
        | cons a l =>
          simp only [List.cons_append] at h1
          injection h1 with _ h1
          exact absurd h1 (by simp)
      subst hts
      simp only [List.nil_append] at h1 ⊢
      injection h1 with h1 _
      have h23 := fol_blank q.st hw.wt hk
      have hn : nxt q.st 32 = 3 := by unfold nxt; rw [if_pos h23]; decide
      have ht : q.told 32 = [q.tok q.rd] := by unfold PS.told; rw [if_pos h23]
      have hcc : charP q 32 [32] = ([q.tok q.rd], .ok ((q.cut 32).beg.add 3 [32]).nrm) := by
        unfold charP
        rw [hn, ht, if_neg (by decide), if_neg (by decide), if_neg (by decide), if_neg (by decide)]
      rw [hcc]
      refine ⟨T, _, by rw [h1], h3, h4, ?_⟩
      exact ⟨rfl, rfl⟩
    · by_cases h4' : 4 < q.st
      · unfold endP at h2
        rw [if_neg h8, if_neg hk, if_pos h4'] at h2
        exact absurd h2 (by decide)
      · have he : endP q = ([], 0) := by unfold endP; rw [if_neg h8, if_neg hk, if_neg h4']
        rw [he, List.append_nil] at h1
        -- the token ends where the text ends: what is waited for is nothing
        have hst : q.st = 3 := by
          obtain ⟨i, k', e, t', q1, q2, hT, hz⟩ := first_tok (S := lsB s) (T := T) (L := []) (by rw [hap]; simp only; rw [he, List.append_nil]; exact h1)
          have e6 : (e : Int) = s.size := by rw [hT] at h6; exact h6
          have e5 : (i : Int) = 0 := by rw [hT] at h5; exact h5
          obtain ⟨s1, self, s2⟩ : ∃ (x : Unit) (self : Bool), lookP (lsB s) 0 = .tok k' t' e self ∧ 4 < startN (byS (lsB s) 0) := by
            have hg := gapE_spec (lsB s) 3 0 (Or.inl rfl) (Nat.zero_le _)
            have eg := allF_gap (S := lsB s) (k := 0) (Nat.zero_le _)
            obtain ⟨z1, _, _⟩ := allF_zero (lsB s)
            have h1' : (allP (lsB s)).1 = [T] := by rw [hap]; simp only; rw [he, List.append_nil]; exact h1
            rw [h1', ← eg] at z1
            by_cases hl : gapE (lsB s) 3 0 < (lsB s).length
            · have hsx := look_step hl (hg.2.2.1 hl)
              rcases hX : lookP (lsB s) (gapE (lsB s) 3 0) with ⟨kk, tt, ee, self⟩ | code | x
              · rw [hX] at hsx
                rw [allF_tok hsx] at z1
                injection z1 with z1 _
                rw [hT] at z1
                injection z1 with y1 y2 y3 y4 y5 y6
                have e0 : gapE (lsB s) 3 0 = 0 := by omega
                rw [e0] at hX hg hl
                have : ee = e := by omega
                subst this
                subst y1
                subst y2
                exact ⟨(), self, hX, hg.2.2.1 hl⟩
              · rw [hX] at hsx
                rw [(allF_half hsx).2] at z1
                cases z1
              · rw [hX] at hsx
                rw [allF_bad hsx] at z1
                cases z1
            · have e0 : gapE (lsB s) 3 0 = (lsB s).length := by omega
              rw [e0, allF_end] at z1
              cases z1
          have hl0 : 0 < (lsB s).length := by rw [lsB_len]; omega
          have hst := look_step hl0 s2.2
          rw [s2.1] at hst
          have ee : e = (lsB s).length := by rw [lsB_len]; omega
          obtain ⟨_, _, _, y3, y4⟩ := hst
          rw [frs_pI, List.drop_zero, hf] at y3 y4
          cases self with
          | true =>
            have y := y3 (Or.inl rfl)
            rw [ee, List.drop_length] at y
            have : (Out.ok q) = .ok (frs (lsB s) 3 (lsB s).length) := (Prod.mk.inj y).2
            injection this with this
            rw [this]
            rfl
          | false =>
            obtain ⟨st, y5, y6, _⟩ := y4 rfl ee
            have : (Out.ok q) = .ok (mid (lsB s) st 0 e) := (Prod.mk.inj y5).2
            injection this with this
            rw [this] at h4'
            exact absurd y6 h4'
        have hcc : charP q 32 [32] = ([], .ok ((q.cut 32).beg.add 3 [32]).nrm) := by
          have h23 : folN q.st 32 = 3 := by rw [hst]; decide
          have hn : nxt q.st 32 = 3 := by unfold nxt; rw [if_neg (by omega)]; exact h23
          have ht : q.told 32 = [] := by unfold PS.told; rw [if_neg (by omega)]
          unfold charP
          rw [hn, ht, if_neg (by decide), if_neg (by decide), if_neg (by decide), if_neg (by decide)]
        rw [hcc, List.append_nil]
        exact ⟨T, ((q.cut 32).beg.add 3 [32]).nrm, by rw [h1], h3, h4, ⟨rfl, rfl⟩⟩
/-- tokens printed, with a blank behind each -/
def cat (pr : Tok → ByteArray) : List Tok → ByteArray
  | [] => ⟨#[]⟩
  | T :: l => pr T ++ ⟨#[32]⟩ ++ cat pr l
theorem cat_app (pr : Tok → ByteArray) (a b : List Tok) : cat pr (a ++ b) = cat pr a ++ cat pr b := by
  induction a with
  | nil =>
    show cat pr b = ⟨#[]⟩ ++ cat pr b
    apply ByteArray.ext
    rw [ByteArray.data_append]
    simp
  | cons T a ih =>
    show pr T ++ ⟨#[32]⟩ ++ cat pr (a ++ b) = pr T ++ ⟨#[32]⟩ ++ cat pr a ++ cat pr b
    rw [ih]
    simp only [ByteArray.append_assoc]
theorem cat_read (pr : Tok → ByteArray) (l : List Tok) (h : ∀ T ∈ l, OneT (pr T) T.k T.t) : ∃ ts q, feedP pI (lsB (cat pr l)) = (ts, .ok q) ∧ KT ts = KT l ∧ Sim q pI := by
  induction l with
  | nil => exact ⟨[], pI, rfl, rfl, rfl, rfl⟩
  | cons T l ih =>
    obtain ⟨T1, q1, a1, a2, a3, a4⟩ := one_blank (h T List.mem_cons_self)
    obtain ⟨ts, q, b1, b2, b3⟩ := ih (fun X hX => h X (List.mem_cons_of_mem _ hX))
    have e : lsB (cat pr (T :: l)) = (lsB (pr T) ++ [32]) ++ lsB (cat pr l) := by
      show lsB (pr T ++ ⟨#[32]⟩ ++ cat pr l) = _
      rw [lsB_app, lsB_app]
      rfl
    have hs := a4.feed (lsB (cat pr l))
    rw [b1] at hs
    rcases hq : feedP q1 (lsB (cat pr l)) with ⟨ts2, o2⟩
    rw [hq] at hs
    cases o2 with
    | bad B L C => exact absurd hs.2 (fun c => c)
    | ok q2 =>
      have hs2 : Sim q2 q := hs.2
      refine ⟨T1 :: ts2, q2, ?_, ?_, hs2.1.trans b3.1, hs2.2.trans b3.2⟩
      · rw [e, feedP_app, a1]
        simp only
        rw [hq]
        rfl
      · show (T1.k, T1.t) :: KT ts2 = (T.k, T.t) :: KT l
        have hk : T1.k = T.k := by omega
        rw [hk, a3]
        congr 1
        exact hs.1.trans b2
theorem cat_all (pr : Tok → ByteArray) (l : List Tok) (h : ∀ T ∈ l, OneT (pr T) T.k T.t) : KT (allP (lsB (cat pr l))).1 = KT l ∧ (allP (lsB (cat pr l))).2 = 0 := by
  obtain ⟨ts, q, h1, h2, h3⟩ := cat_read pr l h
  have he : endP q = ([], 0) := by
    unfold endP
    rw [h3.1]
    rfl
  unfold allP
  rw [h1]
  simp only
  rw [he, List.append_nil]
  exact ⟨h2, rfl⟩
/-- every token that is read can be printed; how long they are together -/
def wgt : List Tok → Nat
  | [] => 0
  | T :: l => 2 * T.t.size + 3 + wgt l
theorem wgt_app (a b : List Tok) : wgt (a ++ b) = wgt a + wgt b := by
  induction a with
  | nil => simp [wgt]
  | cons T a ih => simp only [List.cons_append, wgt, ih]; omega
theorem cat_size (pr : Tok → ByteArray) (l : List Tok) (h : ∀ T ∈ l, (pr T).size ≤ 2 * T.t.size + 2) : (cat pr l).size ≤ wgt l := by
  induction l with
  | nil => exact Nat.zero_le _
  | cons T l ih =>
    show (pr T ++ ⟨#[32]⟩ ++ cat pr l).size ≤ _
    rw [ByteArray.size_append, ByteArray.size_append]
    have h1 := h T List.mem_cons_self
    have h2 := ih (fun X hX => h X (List.mem_cons_of_mem _ hX))
    show (pr T).size + 1 + (cat pr l).size ≤ 2 * T.t.size + 3 + wgt l
    omega
end Go.Proofs.YtpfmamimhhnbiaaGreatDoor
