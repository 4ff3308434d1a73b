/-
  What a printed token is read as, without memory.
-/
import Derived.Test.YtmgecifbimhjkaaDoorTR9
namespace Go.Proofs.YtmgecifbimhjkaaDoor
set_option linter.unusedVariables false
set_option linter.unusedSimpArgs false

/-- each quote twice -/
def dbl : List UInt8 → List UInt8
  | [] => []
  | a :: l => if a = 34 then 34 :: 34 :: dbl l else a :: dbl l
theorem dbl_app (a b : List UInt8) : dbl (a ++ b) = dbl a ++ dbl b := by
  induction a with
  | nil => rfl
  | cons x a ih =>
    simp only [List.cons_append, dbl]
    split
    · rw [ih]; rfl
    · rw [ih]; rfl
theorem dbl_len (l : List UInt8) : l.length ≤ (dbl l).length ∧ (dbl l).length ≤ l.length * 2 := by
  induction l with
  | nil => exact ⟨Nat.le_refl _, Nat.zero_le _⟩
  | cons a l ih =>
    simp only [dbl]
    split
    · simp only [List.length_cons]; omega
    · simp only [List.length_cons]; omega
theorem dbl_none : ∀ (l : List UInt8), Lib.index l [34] = -1 → dbl l = l
  | [], _ => rfl
  | a :: l, h => by
    rw [Lib.index] at h
    split at h
    · omega
    rename_i hp
    have h2 : Lib.index l [34] = -1 := by
      split at h
      · rename_i q; exact beq_iff_eq.1 q
      · have := Lib.index_ge l [34]; omega
    have h3 : ¬ a = 34 := fun c => hp (by rw [c]; simp [List.isPrefixOf])
    rw [dbl, if_neg h3, dbl_none l h2]
theorem dbl_some : ∀ (l : List UInt8) (i : Nat), Lib.index l [34] = i → dbl l = l.take i ++ [34, 34] ++ dbl (l.drop (i + 1))
  | [], i, h => by simp [Lib.index] at h
  | a :: l, i, h => by
    rw [Lib.index] at h
    split at h
    · rename_i hp
      have ha : a = 34 := by
        simp [List.isPrefixOf] at hp
        exact hp.symm
      have hi : i = 0 := by omega
      subst hi
      rw [dbl, if_pos ha]
      simp
    rename_i hp
    split at h
    · omega
    have h3 : ¬ a = 34 := fun c => hp (by rw [c]; simp [List.isPrefixOf])
    have hge := Lib.index_ge l [34]
    rename_i hm
    have hm2 : Lib.index l [34] ≠ -1 := fun c => hm (by rw [c]; rfl)
    cases i with
    | zero => omega
    | succ k =>
      rw [dbl, if_neg h3, dbl_some l k (by omega)]
      simp
theorem repl_dbl : ∀ (k : Nat) (l : List UInt8), Lib.count l [34] = k → Lib.replaceK [34] [34, 34] k l = dbl l
  | 0, l, h => by
    rw [Lib.replaceK]
    symm
    apply dbl_none
    rcases Lib.index_spec l [34] with ⟨c, _⟩ | ⟨i, hi, _⟩
    · exact c
    · rw [Lib.count_hit (by decide) hi] at h; omega
  | k + 1, l, h => by
    obtain ⟨i, hi⟩ := Lib.index_of_count (s := l) (old := [34]) (by omega)
    rw [Lib.count_hit (by decide) hi] at h
    rw [Lib.replaceK_hit _ _ _ _ _ hi, dbl_some l i hi, repl_dbl k _ (by simpa using (show Lib.count (l.drop (i + [34].length)) [34] = k by omega))]
    rfl
theorem replaceAll_dbl (l : List UInt8) : Lib.replaceAll l [34] [34, 34] = dbl l := by
  unfold Lib.replaceAll Lib.replace
  rw [if_neg (by decide)]
  refine repl_dbl _ l ?_
  unfold Lib.replaceNum
  rw [if_pos (Or.inl (by decide))]

/-- a text that is one token -/
theorem all_one {S : List UInt8} {k : Nat} {t : ByteArray} {self : Bool} (h0 : 0 < S.length) (hs : 4 < startN (byS S 0)) (hl : lookP S 0 = .tok k t S.length self) : (allP S).1 = [tokAt S k t 0 S.length] ∧ (allP S).2 = 0 := by
  have h := look_step h0 hs
  rw [hl] at h
  have ht := allF_tok h
  rw [allF_end] at ht
  obtain ⟨z1, z2, _⟩ := allF_zero S
  rw [ht] at z1 z2
  exact ⟨z1.symm, z2.symm⟩
theorem runE_all {f : Nat → Bool} {S : List UInt8} (i : Nat) (hi : i ≤ S.length) (h : ∀ k, i ≤ k → k < S.length → f (byS S k) = true) : runE f S i = S.length := by
  by_cases hl : i < S.length
  · rw [runE_on hl (h i (Nat.le_refl _) hl)]
    exact runE_all (i + 1) (by omega) (fun k h1 h2 => h k (by omega) h2)
  · rw [runE_off (fun c => hl c.1)]; omega
termination_by S.length - i
decreasing_by omega
theorem subS_all (S : List UInt8) (i : Nat) : subS S i S.length = S.drop i := by
  unfold subS
  rw [List.take_of_length_le (by rw [List.length_drop]; omega)]
theorem one_symbol {S : List UInt8} (h0 : 0 < S.length) (hd : dgN (byS S 0) = false) (hy : ∀ k, k < S.length → syN (byS S k) = true) : (allP S).1 = [tokAt S 3 (bts S) 0 S.length] ∧ (allP S).2 = 0 := by
  have h1 := hy 0 h0
  obtain ⟨a1, a2, a3, a4, a5, a6, a7, a8, a9, a10⟩ := sy_ne h1
  refine all_one (self := false) h0 (by rw [start_sy h1 (by rw [hd]; decide)]; decide) ?_
  unfold lookP
  rw [if_neg a2, if_neg a3, if_neg a5, if_neg a4, if_neg a6, if_neg a7, if_neg (by rw [hd]; decide), if_pos h1, runE_all 0 (Nat.zero_le _) (fun k _ h => hy k h), subS_all, List.drop_zero]
theorem bar_all {S : List UInt8} (i j : Nat) (hj : j < S.length) (h : ∀ k, j ≤ k → k + 1 < S.length → nbN (byS S k) = false) (he : byS S (S.length - 1) = 124) : barP S i j = .tok 3 (bts (subS S (i + 1) (S.length - 1))) S.length true := by
  rw [barP, dif_pos hj]
  by_cases hl : j + 1 < S.length
  · have hn := h j (Nat.le_refl _) hl
    have h124 : ¬ byS S j = 124 := fun c => by rw [c] at hn; exact absurd hn (by decide)
    rw [if_neg h124, if_neg (by rw [hn]; decide)]
    exact bar_all i (j + 1) hl (fun k h1 h2 => h k (by omega) h2) he
  · have e : j = S.length - 1 := by omega
    rw [e, if_pos he]
    congr 1
    omega
termination_by S.length - j
decreasing_by omega
theorem one_barred {S : List UInt8} (h0 : 2 ≤ S.length) (hb : byS S 0 = 124) (h : ∀ k, 1 ≤ k → k + 1 < S.length → nbN (byS S k) = false) (he : byS S (S.length - 1) = 124) : (allP S).1 = [tokAt S 3 (bts (subS S 1 (S.length - 1))) 0 S.length] ∧ (allP S).2 = 0 := by
  refine all_one (self := true) (by omega) (by rw [hb]; decide) ?_
  unfold lookP
  rw [hb, if_neg (by decide), if_neg (by decide), if_neg (by decide), if_pos rfl]
  exact bar_all 0 1 (by omega) h he
theorem one_keyword {S : List UInt8} (h0 : 2 ≤ S.length) (hb : byS S 0 = 58) (hd : dgN (byS S 1) = false) (hy : ∀ k, 1 ≤ k → k < S.length → syN (byS S k) = true) : (allP S).1 = [tokAt S 4 (bts (S.drop 1)) 0 S.length] ∧ (allP S).2 = 0 := by
  refine all_one (self := false) (by omega) (by rw [hb]; decide) ?_
  unfold lookP
  rw [hb, if_neg (by decide), if_neg (by decide), if_neg (by decide), if_neg (by decide), if_pos rfl]
  unfold keyP
  rw [if_neg (by omega), if_neg (fun c => c ⟨hy 1 (by omega) (by omega), hd⟩), Nat.zero_add, runE_all 1 (by omega) hy, subS_all]
/-- what is quoted, from a place on -/
theorem qt_all {S : List UInt8} : ∀ (m : List UInt8) (j : Nat) (said : List UInt8), S.drop j = dbl m ++ [34] → (∀ u ∈ m, nqN u.toNat = false) → qtP S j said = .tok 9 (bts (said ++ m)) S.length false
  | [], j, said, hd, hn => by
    have hl : j < S.length := by
      rcases Nat.lt_or_ge j S.length with q | q
      · exact q
      · rw [List.drop_eq_nil_iff.2 q] at hd; cases hd
    have hlen : (S.drop j).length = 1 := by rw [hd]; rfl
    rw [List.length_drop] at hlen
    have hc := List.drop_eq_getElem_cons hl
    rw [hd] at hc
    injection hc with hc _
    have hb : byS S j = 34 := by rw [byS_at hl, ← hc]; rfl
    rw [qtP, dif_pos hl, if_pos hb, if_neg (fun c => by omega), List.append_nil]
    congr 1
    omega
  | u :: m, j, said, hd, hn => by
    have hl : j < S.length := by
      rcases Nat.lt_or_ge j S.length with q | q
      · exact q
      · rw [List.drop_eq_nil_iff.2 q] at hd
        simp only [dbl] at hd
        split at hd <;> cases hd
    have hc := List.drop_eq_getElem_cons hl
    by_cases hu : u = 34
    · have e : dbl (u :: m) = 34 :: 34 :: dbl m := by rw [dbl, if_pos hu]
      rw [e] at hd
      rw [hd] at hc
      injection hc with hc hc2
      have hb : byS S j = 34 := by rw [byS_at hl, ← hc]; rfl
      have hl1 : j + 1 < S.length := by
        rcases Nat.lt_or_ge (j + 1) S.length with q | q
        · exact q
        · rw [List.drop_eq_nil_iff.2 q] at hc2; cases hc2
      have hd1 := List.drop_eq_getElem_cons hl1
      rw [← hc2] at hd1
      injection hd1 with hd1 hd2
      have hb1 : byS S (j + 1) = 34 := by rw [byS_at hl1, ← hd1]; rfl
      rw [qtP, dif_pos hl, if_pos hb, if_pos ⟨hl1, hb1⟩, qt_all m (j + 2) (said ++ [34]) hd2.symm (fun x hx => hn x (List.mem_cons_of_mem _ hx)), hu, List.append_assoc]
      rfl
    · have e : dbl (u :: m) = u :: dbl m := by rw [dbl, if_neg hu]
      rw [e] at hd
      rw [hd] at hc
      injection hc with hc hc2
      have hb : ¬ byS S j = 34 := fun c => hu (by rw [byS_at hl, ← hc] at c; exact u8_of c (by decide))
      have hq : nqN (byS S j) = false := by rw [byS_at hl, ← hc]; exact hn u List.mem_cons_self
      rw [qtP, dif_pos hl, if_neg hb, if_neg (by rw [hq]; decide), qt_all m (j + 1) _ hc2.symm (fun x hx => hn x (List.mem_cons_of_mem _ hx)), ← hc, List.append_assoc]
      rfl
theorem one_string (m : List UInt8) (hn : ∀ u ∈ m, nqN u.toNat = false) : (allP (34 :: (dbl m ++ [34]))).1 = [tokAt (34 :: (dbl m ++ [34])) 9 (bts m) 0 (34 :: (dbl m ++ [34])).length] ∧ (allP (34 :: (dbl m ++ [34]))).2 = 0 := by
  have hb : byS (34 :: (dbl m ++ [34])) 0 = 34 := rfl
  refine all_one (self := false) (by simp) (by rw [hb]; decide) ?_
  unfold lookP
  rw [hb, if_neg (by decide), if_neg (by decide), if_pos rfl]
  have := qt_all (S := 34 :: (dbl m ++ [34])) m 1 [] rfl hn
  rw [List.nil_append] at this
  exact this

theorem qtP_kind {S : List UInt8} (j : Nat) (l : List UInt8) {k e : Nat} {t : ByteArray} {self : Bool} (h : qtP S j l = .tok k t e self) : k = 9 := by
  rw [qtP] at h
  split at h
  · split at h
    · split at h
      · exact qtP_kind (j + 2) _ h
      · injection h with h; exact h.symm
    · split at h
      · cases h
      · exact qtP_kind (j + 1) _ h
  · cases h
termination_by S.length - j
decreasing_by all_goals omega
theorem barP_kind {S : List UInt8} (i j : Nat) {k e : Nat} {t : ByteArray} {self : Bool} (h : barP S i j = .tok k t e self) : k = 3 := by
  rw [barP] at h
  split at h
  · split at h
    · injection h with h; exact h.symm
    · split at h
      · cases h
      · exact barP_kind i (j + 1) h
  · cases h
termination_by S.length - j
decreasing_by all_goals omega
/-- how long a token's text is -/
def LenOk (i k e : Nat) (t : ByteArray) : Prop := (1 ≤ k ∧ k ≤ 9) ∧ (k = 1 ∨ k = 2 ∨ k = 5 ∨ k = 6 → t.size = e - i) ∧ (k = 7 ∨ k = 8 → t.size + 2 = e - i)
theorem bts_size (l : List UInt8) : (bts l).size = l.length := List.size_toArray
theorem lookP_size {S : List UInt8} {i k e : Nat} {t : ByteArray} {self : Bool} (hi : i < S.length) (h : lookP S i = .tok k t e self) : LenOk i k e t := by
  have nue : ∀ kk ee, i ≤ ee → ee ≤ S.length → (kk = 5 ∨ kk = 6) → nueP S i kk ee = .tok k t e self → LenOk i k e t := fun kk ee h1 h2 h3 hh => by
    unfold nueP at hh
    split at hh
    · cases hh
    · injection hh with g1 g2 g3 g4
      subst g1; subst g2; subst g3
      have : (bts (subS S i ee)).size = ee - i := by rw [bts_size, subS_len h1 h2]
      exact ⟨by omega, fun _ => this, fun c => by omega⟩
  have shq : ∀ kk ee, i + 2 ≤ ee → ee ≤ S.length → (kk = 7 ∨ kk = 8) → shqP S i kk ee = .tok k t e self → LenOk i k e t := fun kk ee h1 h2 h3 hh => by
    have key : Seen.tok kk (bts (subS S (i + 2) ee)) ee false = .tok k t e self → LenOk i k e t := fun hh => by
      injection hh with g1 g2 g3 g4
      subst g1; subst g2; subst g3
      have : (bts (subS S (i + 2) ee)).size = ee - (i + 2) := by rw [bts_size, subS_len h1 h2]
      exact ⟨by omega, fun c => by omega, fun _ => by omega⟩
    unfold shqP at hh
    split at hh
    · split at hh
      · cases hh
      · exact key hh
    · split at hh
      · cases hh
      · exact key hh
  unfold lookP at h
  split at h
  · injection h with g1 g2 g3 g4
    subst g1; subst g2; subst g3
    exact ⟨by omega, fun _ => by show 1 = _; omega, fun c => by omega⟩
  split at h
  · injection h with g1 g2 g3 g4
    subst g1; subst g2; subst g3
    exact ⟨by omega, fun _ => by show 1 = _; omega, fun c => by omega⟩
  split at h
  · have := qtP_kind _ _ h
    subst this
    exact ⟨by omega, fun c => by omega, fun c => by omega⟩
  split at h
  · have := barP_kind _ _ h
    subst this
    exact ⟨by omega, fun c => by omega, fun c => by omega⟩
  split at h
  · unfold keyP at h
    split at h
    · cases h
    · split at h
      · cases h
      · injection h with g1 g2 g3 g4
        subst g1
        exact ⟨by omega, fun c => by omega, fun c => by omega⟩
  split at h
  · unfold shpP at h
    split at h
    · cases h
    · rename_i hne
      split at h
      · have hr := runE_spec hxN S (i + 2) (by omega)
        exact shq 7 _ hr.1 hr.2.1 (Or.inl rfl) h
      · split at h
        · have hr := runE_spec biN S (i + 2) (by omega)
          exact shq 8 _ hr.1 hr.2.1 (Or.inr rfl) h
        · cases h
  split at h
  · have hr := runE_spec dgN S i (by omega)
    unfold numP at h
    split at h
    · cases h
    · unfold nubP at h
      split at h
      · rename_i hdot
        split at h
        · cases h
        · split at h
          · cases h
          · have hr2 := runE_spec dgN S (runE dgN S i + 1) (by omega)
            exact nue 6 _ (by omega) hr2.2.1 (Or.inr rfl) h
      · exact nue 5 _ hr.1 hr.2.1 (Or.inl rfl) h
  split at h
  · injection h with g1 g2 g3 g4
    subst g1
    exact ⟨by omega, fun c => by omega, fun c => by omega⟩
  · cases h
/-- the first token of a text -/
theorem first_tok {S : List UInt8} {T : Tok} {L : List Tok} (h : (allP S).1 = T :: L) : ∃ i k e t, i < e ∧ e ≤ S.length ∧ T = tokAt S k t i e ∧ LenOk i k e t := by
  obtain ⟨z1, _, _⟩ := allF_zero S
  have eg := allF_gap (S := S) (k := 0) (Nat.zero_le _)
  obtain ⟨a1, a2, a3, _⟩ := gapE_spec S 3 0 (Or.inl rfl) (Nat.zero_le _)
  rw [← z1, ← eg] at h
  by_cases hl : gapE S 3 0 < S.length
  · have hs := look_step hl (a3 hl)
    rcases hX : lookP S (gapE S 3 0) with ⟨kk, t, e, self⟩ | code | x
    · have hz := lookP_size hl hX
      rw [hX] at hs
      rw [allF_tok hs] at h
      injection h with h1 _
      exact ⟨_, kk, e, t, hs.1, hs.2.1, h1.symm, hz⟩
    · rw [hX] at hs
      rw [(allF_half hs).2] at h
      cases h
    · rw [hX] at hs
      rw [allF_bad hs] at h
      cases h
  · have e : gapE S 3 0 = S.length := by omega
    rw [e, allF_end] at h
    cases h
end Go.Proofs.YtmgecifbimhjkaaDoor
