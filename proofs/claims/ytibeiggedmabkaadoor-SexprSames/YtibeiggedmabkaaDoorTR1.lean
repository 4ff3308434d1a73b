/-
  One look at a place: what the reference sees there, and that the scanner's bytes say the same.
-/
import Derived.Test.YtibeiggedmabkaaDoorTR0
import Derived.Lib.Replace
namespace Go.Proofs.YtibeiggedmabkaaDoor
set_option linter.unusedVariables false
set_option linter.unusedSimpArgs false

/-- each two quotes as one, from the left -/
def undq : List UInt8 → List UInt8
  | [] => []
  | [a] => [a]
  | a :: b :: l => if a = 34 ∧ b = 34 then 34 :: undq l else a :: undq (b :: l)
theorem undq_none : ∀ (l : List UInt8), Lib.index l [34, 34] = -1 → undq l = l
  | [], _ => rfl
  | [a], _ => rfl
  | a :: b :: l, h => by
    rw [Lib.index] at h
    split at h
    · omega
    rename_i hp
    have h2 : Lib.index (b :: l) [34, 34] = -1 := by
      split at h
      · rename_i q; exact beq_iff_eq.1 q
      · have := Lib.index_ge (b :: l) [34, 34]; omega
    have h3 : ¬ (a = 34 ∧ b = 34) := fun c => hp (by rw [c.1, c.2]; simp [List.isPrefixOf])
    rw [undq, if_neg h3, undq_none (b :: l) h2]
theorem undq_some : ∀ (l : List UInt8) (i : Nat), Lib.index l [34, 34] = i → undq l = l.take i ++ [34] ++ undq (l.drop (i + 2))
  | [], i, h => by simp [Lib.index] at h
  | [a], i, h => by simp [Lib.index, List.isPrefixOf] at h
  | a :: b :: l, i, h => by
    rw [Lib.index] at h
    split at h
    · rename_i hp
      have hab : a = 34 ∧ b = 34 := by
        simp [List.isPrefixOf] at hp
        exact ⟨hp.1.symm, hp.2.symm⟩
      have hi : i = 0 := by omega
      subst hi
      rw [undq, if_pos hab]
      simp
    rename_i hp
    split at h
    · omega
    have h3 : ¬ (a = 34 ∧ b = 34) := fun c => hp (by rw [c.1, c.2]; simp [List.isPrefixOf])
    have hge := Lib.index_ge (b :: l) [34, 34]
    rename_i hm
    have hm2 : Lib.index (b :: l) [34, 34] ≠ -1 := fun c => hm (by rw [c]; rfl)
    cases i with
    | zero => omega
    | succ k =>
      rw [undq, if_neg h3, undq_some (b :: l) k (by omega)]
      simp
theorem repl_undq : ∀ (k : Nat) (l : List UInt8), Lib.count l [34, 34] = k → Lib.replaceK [34, 34] [34] k l = undq l
  | 0, l, h => by
    rw [Lib.replaceK]
    symm
    apply undq_none
    rcases Lib.index_spec l [34, 34] with ⟨c, _⟩ | ⟨i, hi, _⟩
    · exact c
    · rw [Lib.count_hit (by decide) hi] at h; omega
  | k + 1, l, h => by
    obtain ⟨i, hi⟩ := Lib.index_of_count (s := l) (old := [34, 34]) (by omega)
    rw [Lib.count_hit (by decide) hi] at h
    rw [Lib.replaceK_hit _ _ _ _ _ hi, undq_some l i hi, repl_undq k _ (by omega)]
    rfl
theorem replaceAll_undq (l : List UInt8) : Lib.replaceAll l [34, 34] [34] = undq l := by
  unfold Lib.replaceAll Lib.replace
  rw [if_neg (by decide)]
  refine repl_undq _ l ?_
  unfold Lib.replaceNum
  rw [if_pos (Or.inl (by decide))]
/-- quoted bytes, and what they say -/
inductive Qd : List UInt8 → List UInt8 → Prop
  | nil : Qd [] []
  | pair (l m : List UInt8) : Qd l m → Qd (l ++ [34, 34]) (m ++ [34])
  | one (l m : List UInt8) (u : UInt8) : u ≠ 34 → Qd l m → Qd (l ++ [u]) (m ++ [u])
theorem Qd.undq {l m : List UInt8} (h : Qd l m) : ∀ r, undq (l ++ r) = m ++ undq r := by
  induction h with
  | nil => intro r; rfl
  | pair l m _ ih =>
    intro r
    rw [List.append_assoc, ih, List.append_assoc]
    congr 1
  | one l m u hu _ ih =>
    intro r
    rw [List.append_assoc, ih, List.append_assoc]
    congr 1
    cases r with
    | nil => rfl
    | cons b r => show Go.Proofs.YtibeiggedmabkaaDoor.undq (u :: b :: r) = u :: Go.Proofs.YtibeiggedmabkaaDoor.undq (b :: r); rw [Go.Proofs.YtibeiggedmabkaaDoor.undq, if_neg (fun c => hu c.1)]
theorem Qd.unq {l m : List UInt8} (h : Qd l m) : unq ⟨l.toArray⟩ = ⟨m.toArray⟩ := by
  unfold Go.Proofs.YtibeiggedmabkaaDoor.unq
  have := h.undq []
  rw [List.append_nil] at this
  show (⟨(Lib.replaceAll l [34, 34] [34]).toArray⟩ : ByteArray) = _
  rw [replaceAll_undq, this]
  show (⟨(m ++ []).toArray⟩ : ByteArray) = _
  rw [List.append_nil]

def tokAt (S : List UInt8) (k : Nat) (t : ByteArray) (i e : Nat) : Tok := ⟨k, t, i, e, (nlN S i : Int) + 1, ((i - ahN S i : Nat) : Int) + 1⟩
def Stp (S : List UInt8) (i : Nat) : Seen → Prop
  | .tok k t e self => i < e ∧ e ≤ S.length ∧ k < 10 ∧ (self = true ∨ e < S.length → feedP (frs S 3 i) (S.drop i) = consT (tokAt S k t i e) (feedP (frs S 3 e) (S.drop e))) ∧
      (self = false → e = S.length → ∃ st, feedP (frs S 3 i) (S.drop i) = ([], .ok (mid S st i e)) ∧ 4 < st ∧ endP (mid S st i e) = ([tokAt S k t i e], 0))
  | .half code => ∃ st, feedP (frs S 3 i) (S.drop i) = ([], .ok (mid S st i S.length)) ∧ 4 < st ∧ endP (mid S st i S.length) = ([], code) ∧ (code = 120 ∨ code = 121)
  | .bad x => i ≤ x ∧ x < S.length ∧ feedP (frs S 3 i) (S.drop i) = ([], badAt S x)
theorem stp_end {S : List UInt8} {i e st k : Nat} {t : ByteArray} (hie : i < e) (he : e ≤ S.length) (hfeed : feedP (frs S 3 i) (S.drop i) = feedP (mid S st i e) (S.drop e)) (h4 : 4 < st) (h8 : st ≠ 8 ∧ st ≠ 21) (hk : kindN st = k) (hk0 : k ≠ 0) (hk9 : k < 10)
    (ht : txt st ⟨(subS S i e).toArray⟩ = t) (hf : e < S.length → folN st (byS S e) = 23) : Stp S i (.tok k t e false) := by
  have et : (mid S st i e).tok e = tokAt S k t i e := by
    unfold PS.tok tokAt
    show (⟨kindN st, txt st ⟨(subS S i e).toArray⟩, _, _, _, _⟩ : Tok) = _
    rw [hk, ht]
    rfl
  refine ⟨hie, he, hk9, fun c => ?_, fun _ c => ⟨st, ?_, h4, ?_⟩⟩
  · have hl : e < S.length := by rcases c with c | c; cases c; exact c
    rw [hfeed, mid_cut hl (hf hl), et]
  · rw [hfeed, c, List.drop_length]; rfl
  · unfold endP
    rw [if_neg (show ¬ ((mid S st i e).st = 8 ∨ (mid S st i e).st = 21) by show ¬ (st = 8 ∨ st = 21); omega), if_pos (show kindN (mid S st i e).st ≠ 0 by show kindN st ≠ 0; rw [hk]; exact hk0)]
    show ([(mid S st i e).tok e], (0 : Int)) = _
    rw [et]
theorem stp_half {S : List UInt8} {i st : Nat} {code : Int} (hfeed : feedP (frs S 3 i) (S.drop i) = feedP (mid S st i S.length) (S.drop S.length)) (h4 : 4 < st)
    (hc : ((st = 8 ∨ st = 21) ∧ code = 121) ∨ (¬ (st = 8 ∨ st = 21) ∧ kindN st = 0 ∧ code = 120)) : Stp S i (.half code) := by
  refine ⟨st, by rw [hfeed, List.drop_length]; rfl, h4, ?_, by omega⟩
  unfold endP
  rcases hc with ⟨c1, c2⟩ | ⟨c1, c2, c3⟩
  · rw [if_pos (show (mid S st i S.length).st = 8 ∨ (mid S st i S.length).st = 21 from c1), c2]
  · rw [if_neg (show ¬ ((mid S st i S.length).st = 8 ∨ (mid S st i S.length).st = 21) from c1), if_neg (show ¬ kindN (mid S st i S.length).st ≠ 0 by show ¬ kindN st ≠ 0; omega), if_pos (show 4 < (mid S st i S.length).st from h4), c3]
theorem u8_of {u : UInt8} {n : Nat} (h : u.toNat = n) (hn : n < 256) : u = UInt8.ofNat n := by
  apply UInt8.toNat_inj.1
  rw [h, UInt8.toNat_ofNat']
  omega
theorem txt_22 {S : List UInt8} {i j : Nat} {said : List UInt8} (hij : i < j) (hj : j < S.length) (hq : Qd (subS S (i + 1) j) said) : txt 22 ⟨(subS S i (j + 1)).toArray⟩ = bts said := by
  have e : txt 22 ⟨(subS S i (j + 1)).toArray⟩ = unq ((⟨(subS S i (j + 1)).toArray⟩ : ByteArray).extract 1 ((⟨(subS S i (j + 1)).toArray⟩ : ByteArray).size - 1)) := by unfold txt; simp
  have hz : (⟨(subS S i (j + 1)).toArray⟩ : ByteArray).size = j + 1 - i := by show (subS S i (j + 1)).toArray.size = _; rw [List.size_toArray, subS_len (by omega) (by omega)]
  rw [e, hz, bx, show j + 1 - i - 1 = j - i by omega, subS_take (by omega) (by omega), subS_drop, hq.unq]
  rfl
theorem txt_9 {S : List UInt8} {i j : Nat} (hij : i < j) (hj : j < S.length) : txt 9 ⟨(subS S i (j + 1)).toArray⟩ = bts (subS S (i + 1) j) := by
  have e : txt 9 ⟨(subS S i (j + 1)).toArray⟩ = ((⟨(subS S i (j + 1)).toArray⟩ : ByteArray).extract 1 ((⟨(subS S i (j + 1)).toArray⟩ : ByteArray).size - 1)) := by unfold txt; simp
  have hz : (⟨(subS S i (j + 1)).toArray⟩ : ByteArray).size = j + 1 - i := by show (subS S i (j + 1)).toArray.size = _; rw [List.size_toArray, subS_len (by omega) (by omega)]
  rw [e, hz, bx, show j + 1 - i - 1 = j - i by omega, subS_take (by omega) (by omega), subS_drop]
  rfl
theorem txt_cut {S : List UInt8} {st i e k : Nat} (hk : (st = 11 ∧ k = 1) ∨ ((st = 18 ∨ st = 20) ∧ k = 2)) : txt st ⟨(subS S i e).toArray⟩ = bts (subS S (i + k) e) := by
  have e1 : txt st ⟨(subS S i e).toArray⟩ = (⟨(subS S i e).toArray⟩ : ByteArray).extract k (⟨(subS S i e).toArray⟩ : ByteArray).size := by
    rcases hk with ⟨rfl, rfl⟩ | ⟨rfl | rfl, rfl⟩ <;> (unfold txt; simp)
  have hz : (⟨(subS S i e).toArray⟩ : ByteArray).size = (subS S i e).length := List.size_toArray
  rw [e1, bx, hz, List.take_length, subS_drop]
  rfl
theorem txt_plain {S : List UInt8} {st i e : Nat} (hk : st = 7 ∨ st = 12 ∨ st = 13 ∨ st = 15) : txt st ⟨(subS S i e).toArray⟩ = bts (subS S i e) := by
  rcases hk with rfl | rfl | rfl | rfl <;> (unfold txt bts; simp)

theorem qt_step {S : List UInt8} {i : Nat} (j : Nat) (said : List UInt8) (hij : i < j) (hj : j ≤ S.length) (hq : Qd (subS S (i + 1) j) said) (hfeed : feedP (frs S 3 i) (S.drop i) = feedP (mid S 21 i j) (S.drop j)) : Stp S i (qtP S j said) := by
  rw [qtP]
  by_cases hl : j < S.length
  · rw [dif_pos hl]
    by_cases h34 : byS S j = 34
    · rw [if_pos h34]
      have e34 : S[j] = 34 := u8_of (by rw [← byS_at hl]; exact h34) (by decide)
      have f1 : feedP (frs S 3 i) (S.drop i) = feedP (mid S 22 i (j + 1)) (S.drop (j + 1)) := by
        rw [hfeed]; exact mid_step (by decide) (by omega) hl (by rw [h34]; decide) (by decide) (by decide)
      by_cases h2 : j + 1 < S.length ∧ byS S (j + 1) = 34
      · rw [if_pos h2]
        have e342 : S[j + 1] = 34 := u8_of (by rw [← byS_at h2.1]; exact h2.2) (by decide)
        refine qt_step (j + 2) (said ++ [34]) (by omega) (by omega) ?_ ?_
        · rw [subS_succ (by omega) h2.1, subS_succ (by omega) hl, e34, e342, List.append_assoc]
          exact .pair _ _ hq
        · rw [f1]; exact mid_step (by decide) (by omega) h2.1 (by rw [h2.2]; decide) (by decide) (by decide)
      · rw [if_neg h2]
        refine stp_end (st := 22) (by omega) (by omega) f1 (by decide) (by decide) rfl (by decide) (by decide) (txt_22 hij hl hq) (fun hl2 => ?_)
        have : byS S (j + 1) ≠ 34 := fun c => h2 ⟨hl2, c⟩
        simp [folN, quotN, this]
    · rw [if_neg h34]
      by_cases hn : nqN (byS S j) = true
      · rw [if_pos hn]
        refine ⟨by omega, hl, ?_⟩
        rw [hfeed]
        exact mid_bad25 (by decide) hl (by simp [folN, quotN, h34, hn])
      · rw [if_neg hn]
        refine qt_step (j + 1) (said ++ [S[j]]) (by omega) (by omega) ?_ ?_
        · rw [subS_succ (by omega) hl]
          exact .one _ _ _ (fun c => h34 (by rw [byS_at hl, c]; rfl)) hq
        · rw [hfeed]; exact mid_step (by decide) (by omega) hl (by simp [folN, quotN, h34, hn]) (by decide) (by decide)
  · rw [dif_neg hl]
    have e : j = S.length := by omega
    subst e
    exact stp_half hfeed (by decide) (Or.inl ⟨Or.inr rfl, rfl⟩)
termination_by S.length - j
decreasing_by all_goals omega
theorem bar_step {S : List UInt8} {i : Nat} (j : Nat) (hij : i < j) (hj : j ≤ S.length) (hfeed : feedP (frs S 3 i) (S.drop i) = feedP (mid S 8 i j) (S.drop j)) : Stp S i (barP S i j) := by
  rw [barP]
  by_cases hl : j < S.length
  · rw [dif_pos hl]
    by_cases h124 : byS S j = 124
    · rw [if_pos h124]
      refine ⟨by omega, by omega, by decide, fun _ => ?_, fun c => by cases c⟩
      rw [hfeed, mid_nine (by decide) (by omega) hl (by rw [h124]; decide) (by omega)]
      congr 1
      unfold PS.tok tokAt
      show (⟨kindN 9, txt 9 ⟨(subS S i (j + 1)).toArray⟩, _, _, _, _⟩ : Tok) = _
      rw [txt_9 hij hl]
      rfl
    · rw [if_neg h124]
      by_cases hn : nbN (byS S j) = true
      · rw [if_pos hn]
        refine ⟨by omega, hl, ?_⟩
        rw [hfeed]
        exact mid_bad25 (by decide) hl (by simp [folN, quotN, h124, hn])
      · rw [if_neg hn]
        refine bar_step (j + 1) (by omega) (by omega) ?_
        rw [hfeed]; exact mid_step (by decide) (by omega) hl (by simp [folN, quotN, h124, hn]) (by decide) (by decide)
  · rw [dif_neg hl]
    have e : j = S.length := by omega
    subst e
    exact stp_half hfeed (by decide) (Or.inl ⟨Or.inl rfl, rfl⟩)
termination_by S.length - j
decreasing_by all_goals omega
theorem dg_sy {c : Nat} (h : dgN c = true) : syN c = true := by unfold syN; rw [h]; rfl
theorem dg_ne {c : Nat} (h : dgN c = true) : 48 ≤ c ∧ c ≤ 57 := by unfold dgN at h; simp at h; exact h
theorem hx_sy {c : Nat} (h : hxN c = true) : syN c = true := by
  unfold hxN at h
  unfold syN ltN
  simp at h ⊢
  rcases h with (h | h) | h
  · exact Or.inl (Or.inl h)
  · exact Or.inl (Or.inr (by omega))
  · exact Or.inl (Or.inr (by omega))
theorem start_dg {c : Nat} (h : dgN c = true) (h48 : c ≠ 48) : startN c = 13 := by
  obtain ⟨h1, h2⟩ := dg_ne h
  have hb : blN c = false := by unfold blN; simp; omega
  unfold startN
  rw [h, hb]
  simp [show c ≠ 59 by omega, show c ≠ 40 by omega, show c ≠ 41 by omega, show c ≠ 124 by omega, show c ≠ 34 by omega, show c ≠ 58 by omega, show c ≠ 35 by omega, h48]
theorem sy_ne {c : Nat} (h : syN c = true) : c ≠ 59 ∧ c ≠ 40 ∧ c ≠ 41 ∧ c ≠ 124 ∧ c ≠ 34 ∧ c ≠ 58 ∧ c ≠ 35 ∧ c ≠ 10 ∧ c ≠ 13 ∧ blN c = false := by
  have f : ∀ n, syN n = false → c ≠ n := fun n hn e => by rw [e, hn] at h; cases h
  refine ⟨f 59 (by decide), f 40 (by decide), f 41 (by decide), f 124 (by decide), f 34 (by decide), f 58 (by decide), f 35 (by decide), f 10 (by decide), f 13 (by decide), ?_⟩
  have h9 := f 9 (by decide)
  have h10 := f 10 (by decide)
  have h13 := f 13 (by decide)
  have h32 := f 32 (by decide)
  unfold blN
  simp [h9, h10, h13, h32]
theorem start_sy {c : Nat} (h : syN c = true) (hd : ¬ dgN c = true) : startN c = 7 := by
  obtain ⟨a1, a2, a3, a4, a5, a6, a7, a8, a9, a10⟩ := sy_ne h
  have h48 : c ≠ 48 := fun e => hd (by rw [e]; decide)
  unfold startN
  rw [a10, h]
  simp [a1, a2, a3, a4, a5, a6, a7, h48, hd]
theorem start_bad {c : Nat} (h : ¬ syN c = true) (hs : 4 < startN c) (hn : c ≠ 40 ∧ c ≠ 41 ∧ c ≠ 34 ∧ c ≠ 124 ∧ c ≠ 58 ∧ c ≠ 35) : startN c = 25 := by
  have hd : ¬ dgN c = true := fun e => h (dg_sy e)
  have h48 : c ≠ 48 := fun e => hd (by rw [e]; decide)
  unfold startN at hs ⊢
  rw [if_neg hn.1, if_neg hn.2.1, if_neg hn.2.2.2.1, if_neg hn.2.2.1, if_neg hn.2.2.2.2.1, if_neg hn.2.2.2.2.2, if_neg h48, if_neg hd, if_neg h] at hs ⊢
  by_cases h59 : c = 59
  · rw [if_pos h59] at hs; omega
  rw [if_neg h59] at hs ⊢
  by_cases hb : blN c = true
  · rw [if_pos hb] at hs; omega
  rw [if_neg hb]
theorem key_step {S : List UInt8} {i : Nat} (hi : i < S.length) (hc : byS S i = 58) : Stp S i (keyP S i) := by
  have f0 := frs_begin (st' := 10) hi (by rw [hc]; decide) (by decide) (by decide) (by omega)
  unfold keyP
  by_cases h1 : i + 1 = S.length
  · rw [if_pos h1]
    exact stp_half (st := 10) (by rw [f0, h1]) (by decide) (Or.inr ⟨by decide, rfl, rfl⟩)
  rw [if_neg h1]
  have hl : i + 1 < S.length := by omega
  by_cases h2 : syN (byS S (i + 1)) = true ∧ dgN (byS S (i + 1)) = false
  · rw [if_neg (fun c => c h2)]
    have hr := runE_spec syN S (i + 2) (by omega)
    have e : runE syN S (i + 1) = runE syN S (i + 2) := runE_on hl h2.1
    rw [e]
    refine stp_end (st := 11) (by omega) hr.2.1 ?_ (by decide) (by decide) rfl (by decide) (by decide) (txt_cut (Or.inl ⟨rfl, rfl⟩)) (fun hl2 => ?_)
    · rw [f0, mid_step (st' := 11) (by decide) (by omega) hl (by simp [folN, h2]) (by decide) (by decide)]
      exact run_feed (by decide) (by decide) (fun c h => by simp [folN, h]) S i (i + 2) (by omega) (by omega)
    · have := hr.2.2 hl2
      simp [folN, this]
  · rw [if_pos h2]
    refine ⟨Nat.le_refl _, hi, ?_⟩
    rw [f0]
    exact mid_bad24 (by decide) hl (by simp only [folN]; simp [h2])
theorem shq_step {S : List UInt8} {i st0 st k : Nat} {f : Nat → Bool} (hi : i + 2 ≤ S.length) (hst : (st0 = 17 ∧ st = 18 ∧ k = 7 ∧ f = hxN) ∨ (st0 = 19 ∧ st = 20 ∧ k = 8 ∧ f = biN))
    (hfeed : feedP (frs S 3 i) (S.drop i) = feedP (mid S st0 i (i + 2)) (S.drop (i + 2))) : Stp S i (shqP S i k (runE f S (i + 2))) := by
  have h0 : 4 < st0 := by omega
  have h1 : 4 < st := by omega
  have hk0 : kindN st0 = 0 := by rcases hst with ⟨rfl, _⟩ | ⟨rfl, _⟩ <;> rfl
  have hk1 : kindN st = k := by rcases hst with ⟨_, rfl, rfl, _⟩ | ⟨_, rfl, rfl, _⟩ <;> rfl
  have n0 : ∀ c, f c = true → folN st0 c = st := fun c h => by rcases hst with ⟨rfl, rfl, _, rfl⟩ | ⟨rfl, rfl, _, rfl⟩ <;> simp [folN, numN, h]
  have n1 : ∀ c, f c = true → folN st c = st := fun c h => by rcases hst with ⟨rfl, rfl, _, rfl⟩ | ⟨rfl, rfl, _, rfl⟩ <;> simp [folN, numN, h]
  have b0 : ∀ c, f c = false → folN st0 c = 24 := fun c h => by rcases hst with ⟨rfl, rfl, _, rfl⟩ | ⟨rfl, rfl, _, rfl⟩ <;> simp [folN, numN, h, kindN]
  have b1 : ∀ c, f c = false → syN c = true → folN st c = 24 := fun c h h2 => by rcases hst with ⟨rfl, rfl, _, rfl⟩ | ⟨rfl, rfl, _, rfl⟩ <;> simp [folN, numN, h, h2, kindN]
  have b2 : ∀ c, f c = false → ¬ syN c = true → folN st c = 23 := fun c h h2 => by rcases hst with ⟨rfl, rfl, _, rfl⟩ | ⟨rfl, rfl, _, rfl⟩ <;> simp [folN, numN, h, h2, kindN]
  have hr := runE_spec f S (i + 2) hi
  have htx : ∀ e, txt st ⟨(subS S i e).toArray⟩ = bts (subS S (i + 2) e) := fun e => txt_cut (Or.inr ⟨by omega, rfl⟩)
  have ff : runE f S (i + 2) ≠ i + 2 → feedP (frs S 3 i) (S.drop i) = feedP (mid S st i (runE f S (i + 2))) (S.drop (runE f S (i + 2))) := fun hne => by
    by_cases h : i + 2 < S.length ∧ f (byS S (i + 2)) = true
    · rw [hfeed, mid_step (st' := st) h0 (by omega) h.1 (n0 _ h.2) h1 (by omega), runE_on h.1 h.2]
      exact run_feed h1 (by omega) n1 S i (i + 3) (by omega) (by omega)
    · exact absurd (runE_off h) hne
  generalize runE f S (i + 2) = e at hr ff
  unfold shqP
  by_cases hle : e = S.length
  · rw [if_pos hle]
    by_cases he2 : e = i + 2
    · rw [if_pos he2]
      exact stp_half (st := st0) (by rw [hfeed, ← hle, he2]) h0 (Or.inr ⟨by omega, hk0, rfl⟩)
    · rw [if_neg he2]
      exact stp_end (st := st) (by omega) (by omega) (ff he2) h1 (by omega) hk1 (by omega) (by omega) (htx e) (fun c => absurd c (by omega))
  · rw [if_neg hle]
    have hl : e < S.length := by omega
    have hfe := hr.2.2 hl
    by_cases he2 : e = i + 2
    · rw [if_pos (Or.inl he2)]
      refine ⟨Nat.le_refl _, by omega, ?_⟩
      rw [hfeed, ← he2]
      exact mid_bad24 h0 hl (b0 _ hfe)
    · by_cases hsy : syN (byS S e) = true
      · rw [if_pos (Or.inr hsy)]
        refine ⟨Nat.le_refl _, by omega, ?_⟩
        rw [ff he2]
        exact mid_bad24 h1 hl (b1 _ hfe hsy)
      · rw [if_neg (fun c => by rcases c with c | c; exact he2 c; exact hsy c)]
        exact stp_end (st := st) (by omega) (by omega) (ff he2) h1 (by omega) hk1 (by omega) (by omega) (htx e) (fun c => b2 _ hfe hsy)
theorem shp_step {S : List UInt8} {i : Nat} (hi : i < S.length) (hc : byS S i = 35) : Stp S i (shpP S i) := by
  have f0 := frs_begin (st' := 16) hi (by rw [hc]; decide) (by decide) (by decide) (by omega)
  unfold shpP
  by_cases h1 : i + 1 = S.length
  · rw [if_pos h1]
    exact stp_half (st := 16) (by rw [f0, h1]) (by decide) (Or.inr ⟨by decide, rfl, rfl⟩)
  rw [if_neg h1]
  have hl : i + 1 < S.length := by omega
  by_cases h2 : byS S (i + 1) = 120
  · rw [if_pos h2]
    exact shq_step (st0 := 17) (st := 18) (by omega) (Or.inl ⟨rfl, rfl, rfl, rfl⟩) (by rw [f0]; exact mid_step (by decide) (by omega) hl (by rw [h2]; decide) (by decide) (by decide))
  rw [if_neg h2]
  by_cases h3 : byS S (i + 1) = 98
  · rw [if_pos h3]
    exact shq_step (st0 := 19) (st := 20) (by omega) (Or.inr ⟨rfl, rfl, rfl, rfl⟩) (by rw [f0]; exact mid_step (by decide) (by omega) hl (by rw [h3]; decide) (by decide) (by decide))
  rw [if_neg h3]
  refine ⟨Nat.le_refl _, hi, ?_⟩
  rw [f0]
  exact mid_bad24 (by decide) hl (by simp [folN, numN, kindN, h2, h3])
theorem nue_step {S : List UInt8} {i e st k : Nat} (hie : i < e) (he : e ≤ S.length) (hst : (st = 12 ∧ k = 5) ∨ (st = 13 ∧ k = 5) ∨ (st = 15 ∧ k = 6)) (hfeed : feedP (frs S 3 i) (S.drop i) = feedP (mid S st i e) (S.drop e))
    (hd : e < S.length → dgN (byS S e) = false ∧ (st ≠ 15 → byS S e ≠ 46)) : Stp S i (nueP S i k e) := by
  have hk1 : kindN st = k := by rcases hst with ⟨rfl, rfl⟩ | ⟨rfl, rfl⟩ | ⟨rfl, rfl⟩ <;> rfl
  unfold nueP
  by_cases h : e < S.length ∧ syN (byS S e) = true
  · rw [if_pos h]
    refine ⟨Nat.le_refl _, by omega, ?_⟩
    obtain ⟨d1, d2⟩ := hd h.1
    rw [hfeed]
    refine mid_bad24 (by omega) h.1 ?_
    have h2 := h.2
    generalize byS S e = c at d1 d2 h2
    rcases hst with ⟨rfl, rfl⟩ | ⟨rfl, rfl⟩ | ⟨rfl, rfl⟩
    · have := d2 (by decide); simp [folN, numN, kindN, d1, h2, this]
    · have := d2 (by decide); simp [folN, numN, kindN, d1, h2, this]
    · simp [folN, numN, kindN, d1, h2]
  · rw [if_neg h]
    refine stp_end (st := st) hie he hfeed (by omega) (by omega) hk1 (by omega) (by omega) (txt_plain (by omega)) (fun hl => ?_)
    obtain ⟨d1, d2⟩ := hd hl
    have h2 : ¬ syN (byS S e) = true := fun c => h ⟨hl, c⟩
    generalize byS S e = c at d1 d2 h2
    rcases hst with ⟨rfl, rfl⟩ | ⟨rfl, rfl⟩ | ⟨rfl, rfl⟩
    · have := d2 (by decide); simp [folN, numN, kindN, d1, h2, this]
    · have := d2 (by decide); simp [folN, numN, kindN, d1, h2, this]
    · simp [folN, numN, kindN, d1, h2]
theorem nub_step {S : List UInt8} {i e st : Nat} (hie : i < e) (he : e ≤ S.length) (hst : st = 12 ∨ st = 13) (hfeed : feedP (frs S 3 i) (S.drop i) = feedP (mid S st i e) (S.drop e))
    (hd : e < S.length → dgN (byS S e) = false) : Stp S i (nubP S i e) := by
  unfold nubP
  by_cases h : e < S.length ∧ byS S e = 46
  · rw [if_pos h]
    have f1 : feedP (frs S 3 i) (S.drop i) = feedP (mid S 14 i (e + 1)) (S.drop (e + 1)) := by
      rw [hfeed]
      refine mid_step (by omega) (by omega) h.1 ?_ (by decide) (by decide)
      rw [h.2]
      rcases hst with rfl | rfl <;> decide
    by_cases h1 : e + 1 = S.length
    · rw [if_pos h1]
      exact stp_half (st := 14) (by rw [f1, h1]) (by decide) (Or.inr ⟨by decide, rfl, rfl⟩)
    rw [if_neg h1]
    have hl : e + 1 < S.length := by omega
    by_cases h2 : dgN (byS S (e + 1)) = true
    · have hr := runE_spec dgN S (e + 2) (by omega)
      have er : runE dgN S (e + 1) = runE dgN S (e + 2) := runE_on hl h2
      rw [er, if_neg (by omega)]
      refine nue_step (st := 15) (by omega) hr.2.1 (Or.inr (Or.inr ⟨rfl, rfl⟩)) ?_ (fun hl2 => ⟨hr.2.2 hl2, fun c => absurd rfl c⟩)
      rw [f1, mid_step (st' := 15) (by decide) (by omega) hl (by simp [folN, numN, h2]) (by decide) (by decide)]
      exact run_feed (by decide) (by decide) (fun c hc => by simp [folN, numN, hc]) S i (e + 2) (by omega) (by omega)
    · rw [if_pos (runE_off (fun c => h2 c.2))]
      refine ⟨Nat.le_refl _, by omega, ?_⟩
      rw [f1]
      exact mid_bad24 (by decide) hl (by simp [folN, numN, kindN, h2])
  · rw [if_neg h]
    exact nue_step (st := st) hie he (by omega) hfeed (fun hl => ⟨hd hl, fun _ c => h ⟨hl, c⟩⟩)
theorem num_step {S : List UInt8} {i : Nat} (hi : i < S.length) (hc : dgN (byS S i) = true) : Stp S i (numP S i) := by
  have hr := runE_spec dgN S (i + 1) (by omega)
  have er : runE dgN S i = runE dgN S (i + 1) := runE_on hi hc
  obtain ⟨r1, r2⟩ := dg_ne hc
  unfold numP
  rw [er]
  by_cases h48 : byS S i = 48
  · have f0 := frs_begin (st' := 12) hi (by rw [h48]; decide) (by decide) (by decide) (by omega)
    by_cases h1 : i + 1 < S.length ∧ dgN (byS S (i + 1)) = true
    · have hr2 := runE_spec dgN S (i + 2) (by omega)
      have er2 : runE dgN S (i + 1) = runE dgN S (i + 2) := runE_on h1.1 h1.2
      rw [if_pos ⟨h48, by omega⟩]
      refine ⟨Nat.le_refl _, hi, ?_⟩
      rw [f0]
      obtain ⟨q1, q2⟩ := dg_ne h1.2
      exact mid_bad24 (by decide) h1.1 (by simp [folN, numN, kindN, dg_sy h1.2, show byS S (i + 1) ≠ 46 by omega])
    · have e1 := runE_off h1
      rw [e1, if_neg (by omega)]
      refine nub_step (st := 12) (by omega) (by omega) (Or.inl rfl) f0 (fun hl => ?_)
      rcases hb : dgN (byS S (i + 1)) with _ | _
      · rfl
      · exact absurd ⟨hl, hb⟩ h1
  · have f0 := frs_begin (st' := 13) hi (start_dg hc h48) (by decide) (by decide) (by omega)
    rw [if_neg (fun c => h48 c.1)]
    refine nub_step (st := 13) (by omega) hr.2.1 (Or.inr rfl) ?_ hr.2.2
    rw [f0]
    exact run_feed (by decide) (by decide) (fun c h => by have := dg_ne h; simp [folN, numN, h, show c ≠ 46 by omega]) S i (i + 1) (by omega) (by omega)
theorem look_step {S : List UInt8} {i : Nat} (hi : i < S.length) (hs : 4 < startN (byS S i)) : Stp S i (lookP S i) := by
  unfold lookP
  have one : ∀ (st k : Nat) (u : UInt8), byS S i = u.toNat → startN (byS S i) = st → (st = 5 ∨ st = 6) → kindN st = k → byS S i ≠ 10 → k < 10 → Stp S i (.tok k ⟨#[u]⟩ (i + 1) true) := fun st k u hu e h56 hk h10 hk9 => by
    refine ⟨by omega, by omega, hk9, fun _ => ?_, fun c => by cases c⟩
    rw [frs_one hi e h56 h10]
    congr 1
    unfold PS.tok tokAt
    show (⟨kindN st, txt st ⟨(subS S i (i + 1)).toArray⟩, _, _, _, _⟩ : Tok) = _
    have et : txt st ⟨(subS S i (i + 1)).toArray⟩ = ⟨#[u]⟩ := by
      have hu2 : S[i] = u := UInt8.toNat_inj.1 (by rw [← byS_at hi]; exact hu)
      rw [subS_succ (Nat.le_refl i) hi, subS_self, hu2]
      rcases h56 with rfl | rfl <;> (unfold txt; simp)
    rw [hk, et]
    rfl
  by_cases h40 : byS S i = 40
  · rw [if_pos h40]; exact one 5 1 40 h40 (by rw [h40]; decide) (Or.inl rfl) rfl (by omega) (by decide)
  rw [if_neg h40]
  by_cases h41 : byS S i = 41
  · rw [if_pos h41]; exact one 6 2 41 h41 (by rw [h41]; decide) (Or.inr rfl) rfl (by omega) (by decide)
  rw [if_neg h41]
  by_cases h34 : byS S i = 34
  · rw [if_pos h34]
    exact qt_step (i + 1) [] (by omega) (by omega) (by rw [subS_self]; exact .nil) (frs_begin (st' := 21) hi (by rw [h34]; decide) (by decide) (by decide) (by omega))
  rw [if_neg h34]
  by_cases h124 : byS S i = 124
  · rw [if_pos h124]
    exact bar_step (i + 1) (by omega) (by omega) (frs_begin (st' := 8) hi (by rw [h124]; decide) (by decide) (by decide) (by omega))
  rw [if_neg h124]
  by_cases h58 : byS S i = 58
  · rw [if_pos h58]; exact key_step hi h58
  rw [if_neg h58]
  by_cases h35 : byS S i = 35
  · rw [if_pos h35]; exact shp_step hi h35
  rw [if_neg h35]
  by_cases hd : dgN (byS S i) = true
  · rw [if_pos hd]; exact num_step hi hd
  rw [if_neg hd]
  by_cases hsy : syN (byS S i) = true
  · rw [if_pos hsy]
    have hr := runE_spec syN S (i + 1) (by omega)
    have er : runE syN S i = runE syN S (i + 1) := runE_on hi hsy
    rw [er]
    refine stp_end (st := 7) (by omega) hr.2.1 ?_ (by decide) (by decide) rfl (by decide) (by decide) (txt_plain (Or.inl rfl)) (fun hl => ?_)
    · rw [frs_begin (st' := 7) hi (start_sy hsy hd) (by decide) (by decide) (sy_ne hsy).2.2.2.2.2.2.2.1]
      exact run_feed (by decide) (by decide) (fun c h => by simp [folN, h]) S i (i + 1) (by omega) (by omega)
    · have := hr.2.2 hl
      simp [folN, this]
  · rw [if_neg hsy]
    exact ⟨Nat.le_refl _, hi, frs_bad hi (start_bad hsy hs ⟨h40, h41, h34, h124, h58, h35⟩)⟩
end Go.Proofs.YtibeiggedmabkaaDoor
