/-
  Tokens that were read are printed, and read again with blanks between them: without memory.
-/
import Derived.Test.YtdbhhlecdgbpkaaDoorTP1
namespace Go.Proofs.YtdbhhlecdgbpkaaDoor
open Go.RowKit
set_option linter.unusedVariables false
set_option linter.unusedSimpArgs false

/-- a token that can be printed -/
def PrOk (k : Int) (t : ByteArray) : Prop := ∃ s, PrR k t s 0
theorem prok_sym {t : ByteArray} (h : isPl t ∨ ¬ hasB nbN t) : PrOk 3 t := by
  by_cases hp : isPl t
  · exact ⟨t, ⟨fun _ => ⟨fun _ => ⟨rfl, rfl⟩, fun c => absurd hp c, fun c => absurd hp c⟩, fun e => absurd e (by decide), fun e => absurd e (by decide), fun e => absurd rfl e⟩⟩
  · rcases h with h | h
    · exact absurd h hp
    · exact ⟨barS t, ⟨fun _ => ⟨fun c => absurd c hp, fun _ c => absurd c h, fun _ _ => ⟨rfl, rfl⟩⟩, fun e => absurd e (by decide), fun e => absurd e (by decide), fun e => absurd rfl e⟩⟩
theorem prok_key {t : ByteArray} (h : isPl t) : PrOk 4 t :=
  ⟨_, ⟨fun e => absurd e (by decide), fun _ => ⟨fun _ => ⟨rfl, rfl⟩, fun c => absurd h c⟩, fun e => absurd e (by decide), fun _ e => absurd rfl e⟩⟩
theorem prok_str {t : ByteArray} (h : ¬ hasB nqN t) : PrOk 9 t :=
  ⟨_, ⟨fun e => absurd e (by decide), fun e => absurd e (by decide), fun _ => ⟨fun c => absurd c h, fun _ => ⟨rfl, rfl⟩⟩, fun _ _ e => absurd rfl e⟩⟩
theorem prok_oth {k : Int} {t : ByteArray} (h3 : k ≠ 3) (h4 : k ≠ 4) (h9 : k ≠ 9) (h : OkT (hdk k ++ t) k t) : PrOk k t :=
  ⟨_, ⟨fun e => absurd e h3, fun e => absurd e h4, fun e => absurd e h9, fun _ _ _ => ⟨fun _ => ⟨rfl, rfl⟩, fun c => absurd h c⟩⟩⟩
theorem byt_bts {l : List UInt8} {k : Nat} (h : k < l.length) : byt (bts l) k = byS l k := by
  have hz : k < (bts l).size := by rw [bts_size]; exact h
  rw [← byS_ls hz]
  rfl
theorem byS_sub {S : List UInt8} {i e j : Nat} (h : j < e - i) : byS (subS S i e) j = byS S (i + j) := by
  unfold byS subS
  rw [List.getD_eq_getElem?_getD, List.getD_eq_getElem?_getD, List.getElem?_take, if_pos h, List.getElem?_drop]
theorem runE_all_in {f : Nat → Bool} {S : List UInt8} (i k : Nat) (h1 : i ≤ k) (h2 : k < runE f S i) (hi : i ≤ S.length) : f (byS S k) = true := by
  by_cases h : i < S.length ∧ f (byS S i) = true
  · rw [runE_on h.1 h.2] at h2
    by_cases e : i = k
    · rw [← e]; exact h.2
    · exact runE_all_in (i + 1) k (by omega) h2 (by omega)
  · rw [runE_off h] at h2; omega
termination_by S.length - i
decreasing_by omega
/-- digits of a piece of the text -/
theorem runE_sub {f : Nat → Bool} {S : List UInt8} {i e : Nat} (he : e ≤ S.length) (hie : i ≤ e) (j : Nat) (hj : j ≤ e - i) : runE f (subS S i e) j = min (runE f S (i + j)) e - i := by
  have hl : (subS S i e).length = e - i := subS_len hie he
  by_cases h : j < e - i
  · have hb := byS_sub (S := S) h
    by_cases hf : f (byS S (i + j)) = true
    · rw [runE_on (by omega) (by rw [hb]; exact hf), runE_on (i := i + j) (by omega) hf, runE_sub he hie (j + 1) (by omega), Nat.add_assoc]
    · rw [runE_off (fun c => hf (by rw [← hb]; exact c.2)), runE_off (i := i + j) (fun c => hf c.2)]
      omega
  · rw [runE_off (fun c => by rw [hl] at c; omega)]
    have := (runE_spec f S (i + j) (by omega)).1
    omega
termination_by e - i - j
decreasing_by omega
theorem subS_sub {S : List UInt8} {i e : Nat} (he : e ≤ S.length) (hie : i ≤ e) (j : Nat) : subS (subS S i e) j (e - i) = subS S (i + j) e := by
  unfold subS
  rw [List.drop_take, List.drop_drop, List.take_take, show min (e - i - j) (e - i - j) = e - (i + j) by omega]
theorem lsB_bts (l : List UInt8) : lsB (bts l) = l := rfl
/-- a number, alone -/
theorem num_alone {S : List UInt8} {i k e : Nat} {t : ByteArray} {self : Bool} (hi : i < S.length) (hd : dgN (byS S i) = true) (h : numP S i = .tok k t e self) : (k = 5 ∨ k = 6) ∧ i < e ∧ e ≤ S.length ∧ t = bts (subS S i e) ∧ numP (subS S i e) 0 = .tok k t (e - i) false := by
  have hr := runE_spec dgN S i (by omega)
  have hr1 : i + 1 ≤ runE dgN S i := by rw [runE_on hi hd]; exact (runE_spec dgN S (i + 1) (by omega)).1
  have nue : ∀ kk ee, nueP S i kk ee = .tok k t e self → kk = k ∧ ee = e ∧ t = bts (subS S i e) := fun kk ee hh => by
    unfold nueP at hh
    split at hh
    · cases hh
    · injection hh with g1 g2 g3 g4
      subst g3
      exact ⟨g1, rfl, g2.symm⟩
  unfold numP at h
  split at h
  · cases h
  rename_i h48
  unfold nubP at h
  split at h
  · rename_i hdot
    split at h
    · cases h
    split at h
    · cases h
    rename_i hne1 hne2
    obtain ⟨e1, e2, e3⟩ := nue 6 _ h
    have hr2 := runE_spec dgN S (runE dgN S i + 1) (by omega)
    have hie : i ≤ e := by omega
    have hel : e ≤ S.length := by omega
    have hl : (subS S i e).length = e - i := subS_len hie hel
    have q0 : runE dgN (subS S i e) 0 = runE dgN S i - i := by rw [runE_sub hel hie 0 (by omega), Nat.add_zero]; omega
    have q1 : runE dgN (subS S i e) (runE dgN S i - i + 1) = e - i := by
      rw [runE_sub hel hie _ (by omega), show i + (runE dgN S i - i + 1) = runE dgN S i + 1 by omega, e2]
      omega
    refine ⟨by omega, by omega, hel, e3, ?_⟩
    unfold numP
    rw [q0, byS_sub (by omega), Nat.add_zero, if_neg (fun c => h48 ⟨c.1, by omega⟩)]
    unfold nubP
    rw [if_pos ⟨by omega, by rw [byS_sub (by omega), show i + (runE dgN S i - i) = runE dgN S i by omega]; exact hdot.2⟩, if_neg (by omega), q1, if_neg (by omega)]
    unfold nueP
    rw [if_neg (fun c => by omega), e1, e3]
    congr 1
    have := subS_sub hel hie 0
    rw [Nat.add_zero] at this
    rw [this]
  · rename_i hdot
    obtain ⟨e1, e2, e3⟩ := nue 5 _ h
    have hie : i ≤ e := by omega
    have hel : e ≤ S.length := by omega
    have hl : (subS S i e).length = e - i := subS_len hie hel
    have q0 : runE dgN (subS S i e) 0 = e - i := by rw [runE_sub hel hie 0 (by omega), Nat.add_zero]; omega
    refine ⟨by omega, by omega, hel, e3, ?_⟩
    unfold numP
    rw [q0, byS_sub (by omega), Nat.add_zero, if_neg (fun c => h48 ⟨c.1, by omega⟩)]
    unfold nubP
    rw [if_neg (fun c => by omega)]
    unfold nueP
    rw [if_neg (fun c => by omega), e1, e3]
    congr 1
    have := subS_sub hel hie 0
    rw [Nat.add_zero] at this
    rw [this]
theorem shq_alone {S : List UInt8} {i k kk e : Nat} {t : ByteArray} {self : Bool} {f : Nat → Bool} (hi : i + 2 ≤ S.length) (h : shqP S i kk (runE f S (i + 2)) = .tok k t e self) : kk = k ∧ i + 2 < e ∧ e ≤ S.length ∧ t = bts (subS S (i + 2) e) ∧ shqP (subS S i e) 0 k (runE f (subS S i e) 2) = .tok k t (e - i) false := by
  have hr := runE_spec f S (i + 2) hi
  have key : ∀ ee, ee ≠ i + 2 → ee = runE f S (i + 2) → Seen.tok kk (bts (subS S (i + 2) ee)) ee false = .tok k t e self → kk = k ∧ i + 2 < e ∧ e ≤ S.length ∧ t = bts (subS S (i + 2) e) ∧ shqP (subS S i e) 0 k (runE f (subS S i e) 2) = .tok k t (e - i) false := fun ee hne hee hh => by
    injection hh with g1 g2 g3 g4
    subst g3
    have hie : i ≤ ee := by omega
    have hel : ee ≤ S.length := by omega
    have hl : (subS S i ee).length = ee - i := subS_len hie hel
    have q0 : runE f (subS S i ee) 2 = ee - i := by rw [runE_sub hel hie 2 (by omega), ← hee]; omega
    refine ⟨g1, by omega, hel, g2.symm, ?_⟩
    unfold shqP
    rw [q0, if_pos hl.symm, if_neg (by omega), ← g2]
    congr 1
    rw [Nat.zero_add, subS_sub hel hie 2]
  unfold shqP at h
  split at h
  · split at h
    · cases h
    · rename_i h1 h2
      exact key _ h2 rfl h
  · split at h
    · cases h
    · rename_i h1 h2
      exact key _ (fun c => h2 (Or.inl c)) rfl h
theorem okT_of {s : ByteArray} {k : Nat} {t : ByteArray} {self : Bool} (h0 : 0 < (lsB s).length) (hs : 4 < startN (byS (lsB s) 0)) (hl : lookP (lsB s) 0 = .tok k t (lsB s).length self) : OkT s k t := by
  obtain ⟨a1, a2⟩ := all_one h0 hs hl
  exact ⟨_, a1, a2, rfl, rfl⟩
/-- what is quoted may be quoted -/
theorem qtP_ok {S : List UInt8} (j : Nat) (l : List UInt8) {k e : Nat} {t : ByteArray} {self : Bool} (hl : ∀ u ∈ l, nqN u.toNat = false) (h : qtP S j l = .tok k t e self) : ∃ m, t = bts m ∧ ∀ u ∈ m, nqN u.toNat = false := by
  rw [qtP] at h
  split at h
  · rename_i hj
    split at h
    · split at h
      · exact qtP_ok (j + 2) _ (fun u hu => by rcases List.mem_append.1 hu with c | c; exact hl u c; rw [List.mem_singleton.1 c]; decide) h
      · injection h with g1 g2 g3 g4
        exact ⟨l, g2.symm, hl⟩
    · split at h
      · cases h
      · rename_i hn
        exact qtP_ok (j + 1) _ (fun u hu => by
          rcases List.mem_append.1 hu with c | c
          · exact hl u c
          · rw [List.mem_singleton.1 c, ← byS_at hj]
            rcases hb : nqN (byS S j) with _ | _
            · rfl
            · exact absurd hb hn) h
  · cases h
termination_by S.length - j
decreasing_by all_goals omega
theorem barP_ok {S : List UInt8} (i j : Nat) {k e : Nat} {t : ByteArray} {self : Bool} (hij : i < j) (hl : ∀ q, i < q → q < j → nbN (byS S q) = false) (h : barP S i j = .tok k t e self) : ∃ r, t = bts (subS S (i + 1) r) ∧ r < S.length ∧ i < r ∧ ∀ q, i < q → q < r → nbN (byS S q) = false := by
  rw [barP] at h
  split at h
  · rename_i hj
    split at h
    · injection h with g1 g2 g3 g4
      exact ⟨j, g2.symm, hj, hij, hl⟩
    · split at h
      · cases h
      · rename_i hn
        exact barP_ok i (j + 1) (by omega) (fun q q1 q2 => by
          by_cases e : q = j
          · rw [e]
            rcases hb : nbN (byS S j) with _ | _
            · rfl
            · exact absurd hb hn
          · exact hl q q1 (by omega)) h
  · cases h
termination_by S.length - j
decreasing_by all_goals omega
theorem nb_of {S : List UInt8} {a r : Nat} {f : Nat → Bool} (hr : r ≤ S.length) (har : a ≤ r) (h : ∀ q, a ≤ q → q < r → f (byS S q) = false) : ¬ hasB f (bts (subS S a r)) := fun ⟨k, hk, hc⟩ => by
  rw [bts_size, subS_len har hr] at hk
  rw [byt_bts (by rw [subS_len har hr]; exact hk), byS_sub hk, h (a + k) (by omega) (by omega)] at hc
  exact absurd hc (by decide)
theorem pl_of {S : List UInt8} {a r : Nat} (hr : r ≤ S.length) (har : a < r) (hd : dgN (byS S a) = false) (h : ∀ q, a ≤ q → q < r → syN (byS S q) = true) : isPl (bts (subS S a r)) := by
  have hl : (subS S a r).length = r - a := subS_len (by omega) hr
  refine ⟨by rw [bts_size, hl]; omega, ?_, fun k hk => ?_⟩
  · rw [byt_bts (by rw [hl]; omega), byS_sub (by omega), Nat.add_zero]; exact hd
  · rw [bts_size, hl] at hk
    rw [byt_bts (by rw [hl]; exact hk), byS_sub hk]
    exact h (a + k) (by omega) (by omega)
theorem hdk_other {k : Int} (h7 : k ≠ 7) (h8 : k ≠ 8) (t : ByteArray) : hdk k ++ t = t := by
  unfold hdk
  rw [if_neg h7, if_neg h8]
  apply ByteArray.ext
  rw [ByteArray.data_append]
  simp
theorem sub_two {S : List UInt8} {i e : Nat} (h : i + 2 ≤ e) (he : e ≤ S.length) : subS S i e = S[i] :: S[i + 1] :: subS S (i + 2) e := by
  unfold subS
  rw [List.drop_eq_getElem_cons (by omega : i < S.length), List.drop_eq_getElem_cons (by omega : i + 1 < S.length), show e - i = (e - (i + 2)) + 1 + 1 by omega]
  rfl
/-- what is seen can be printed -/
theorem look_print {S : List UInt8} {i k e : Nat} {t : ByteArray} {self : Bool} (hi : i < S.length) (hs : 4 < startN (byS S i)) (h : lookP S i = .tok k t e self) : PrOk k t := by
  unfold lookP at h
  split at h
  · injection h with g1 g2 g3 g4
    subst g1; subst g2
    exact prok_oth (by decide) (by decide) (by decide) ⟨_, rfl, rfl, rfl, rfl⟩
  split at h
  · injection h with g1 g2 g3 g4
    subst g1; subst g2
    exact prok_oth (by decide) (by decide) (by decide) ⟨_, rfl, rfl, rfl, rfl⟩
  split at h
  · have hk := qtP_kind _ _ h
    subst hk
    obtain ⟨m, rfl, hm⟩ := qtP_ok _ _ (fun u hu => absurd hu (by simp)) h
    refine prok_str (fun ⟨q, hq, hc⟩ => ?_)
    rw [bts_size] at hq
    rw [byt_bts hq, byS_at hq, hm _ (List.getElem_mem hq)] at hc
    exact absurd hc (by decide)
  split at h
  · have hk := barP_kind _ _ h
    subst hk
    obtain ⟨r, rfl, r1, r2, r3⟩ := barP_ok i (i + 1) (by omega) (fun q q1 q2 => by omega) h
    exact prok_sym (Or.inr (nb_of (by omega) (by omega) (fun q q1 q2 => r3 q (by omega) q2)))
  split at h
  · unfold keyP at h
    split at h
    · cases h
    rename_i hne
    split at h
    · cases h
    rename_i hsy
    injection h with g1 g2 g3 g4
    subst g1; subst g2
    have hsy2 : syN (byS S (i + 1)) = true ∧ dgN (byS S (i + 1)) = false := Classical.byContradiction (fun c => hsy c)
    have hr := runE_spec syN S (i + 1) (by omega)
    have hr1 : i + 2 ≤ runE syN S (i + 1) := by rw [runE_on (by omega) hsy2.1]; exact (runE_spec syN S (i + 2) (by omega)).1
    exact prok_key (pl_of hr.2.1 (by omega) hsy2.2 (fun q q1 q2 => runE_all_in (i + 1) q q1 q2 (by omega)))
  split at h
  · rename_i h35
    unfold shpP at h
    split at h
    · cases h
    rename_i hne
    have hi1 : i + 1 < S.length := by omega
    have one : ∀ (kk c : Nat) (f : Nat → Bool) (u : UInt8), byS S (i + 1) = c → u.toNat = c → (kk = 7 ∧ c = 120 ∧ f = hxN ∨ kk = 8 ∧ c = 98 ∧ f = biN) → hdk kk = ⟨#[35, u]⟩ → shqP S i kk (runE f S (i + 2)) = .tok k t e self → PrOk k t := fun kk c f u hc hu hk hh hq => by
      obtain ⟨e1, e2, e3, e4, e5⟩ := shq_alone (by omega) hq
      subst e1
      have hS0 : S[i] = 35 := u8_of (by rw [← byS_at hi]; exact h35) (by decide)
      have hS1 : S[i + 1] = u := UInt8.toNat_inj.1 (by rw [← byS_at hi1, hc, hu])
      have es : lsB (hdk kk ++ t) = subS S i e := by
        rw [lsB_app, hh, sub_two (by omega) e3, hS0, hS1, e4]
        rfl
      have hl : (subS S i e).length = e - i := subS_len (by omega) e3
      have hb0 : byS (subS S i e) 0 = 35 := by rw [byS_sub (by omega), Nat.add_zero]; exact h35
      have hb1 : byS (subS S i e) (0 + 1) = c := by rw [byS_sub (by omega)]; exact hc
      refine prok_oth (by omega) (by omega) (by omega) (okT_of (self := false) (by rw [es]; omega) (by rw [es, hb0]; decide) ?_)
      rw [es, hl]
      unfold lookP
      rw [hb0, if_neg (by decide), if_neg (by decide), if_neg (by decide), if_neg (by decide), if_neg (by decide), if_pos rfl]
      unfold shpP
      rw [if_neg (by omega), hb1]
      rcases hk with ⟨rfl, rfl, rfl⟩ | ⟨rfl, rfl, rfl⟩
      · rw [if_pos rfl]; exact e5
      · rw [if_neg (by decide), if_pos rfl]; exact e5
    split at h
    · rename_i hc; exact one 7 120 hxN 120 hc rfl (Or.inl ⟨rfl, rfl, rfl⟩) rfl h
    split at h
    · rename_i hc; exact one 8 98 biN 98 hc rfl (Or.inr ⟨rfl, rfl, rfl⟩) rfl h
    · cases h
  split at h
  · rename_i h40 h41 h34 h124 h58 h35 hd
    obtain ⟨k56, e1, e2, e3, e4⟩ := num_alone hi hd h
    have hl : (subS S i e).length = e - i := subS_len (by omega) e2
    have hb0 : byS (subS S i e) 0 = byS S i := by rw [byS_sub (by omega), Nat.add_zero]
    refine prok_oth (by omega) (by omega) (by omega) ?_
    rw [hdk_other (by omega) (by omega), e3]
    rw [e3] at e4
    refine okT_of (self := false) (by rw [lsB_bts]; omega) (by rw [lsB_bts, hb0]; exact hs) ?_
    rw [lsB_bts, hl]
    unfold lookP
    rw [hb0, if_neg h40, if_neg h41, if_neg h34, if_neg h124, if_neg h58, if_neg h35, if_pos hd]
    exact e4
  split at h
  · rename_i hd hsy
    injection h with g1 g2 g3 g4
    subst g1; subst g2
    have hr := runE_spec syN S i (by omega)
    have hr1 : i + 1 ≤ runE syN S i := by rw [runE_on hi hsy]; exact (runE_spec syN S (i + 1) (by omega)).1
    refine prok_sym (Or.inl (pl_of hr.2.1 (by omega) ?_ (fun q q1 q2 => runE_all_in i q q1 q2 (by omega))))
    rcases hb : dgN (byS S i) with _ | _
    · rfl
    · exact absurd hb hd
  · cases h
end Go.Proofs.YtdbhhlecdgbpkaaDoor
