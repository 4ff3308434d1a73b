/-
  What the reference's Read tells, from a place on; where an error stands.
-/
import Derived.Test.YtpfmamimhhnbiaaGreatDoorTSA
import Derived.Test.YtpfmamimhhnbiaaGreatDoorTRA
import Derived.Lib.Replace
namespace Go.Proofs.YtpfmamimhhnbiaaGreatDoor
set_option linter.unusedVariables false
set_option linter.unusedSimpArgs false

/-- nothing is waited for: at a place -/
def frs (S : List UInt8) (st j : Nat) : PS := ⟨st, [], 0, 0, 0, j, nlN S j, ahN S j⟩
/-- something that began at i -/
def mid (S : List UInt8) (st i j : Nat) : PS := ⟨st, subS S i j, i, (nlN S i : Int) + 1, ((i - ahN S i : Nat) : Int) + 1, j, nlN S j, ahN S j⟩
def consT (t : Tok) (r : List Tok × Out) : List Tok × Out := (t :: r.1, r.2)
/-- an error at a place -/
def badAt (S : List UInt8) (x : Nat) : Out := .bad x ((nlN S x : Int) + 1) (((x - ahN S x : Nat) : Int) + 1)

theorem nlN_on (S : List UInt8) (j : Nat) : nlN S (j + 1) = if byS S j = 10 then nlN S j + 1 else nlN S j := rfl
theorem ahN_on (S : List UInt8) (j : Nat) : ahN S (j + 1) = if byS S j = 10 then j + 1 else ahN S j := rfl
theorem feed_ok {p q : PS} {u : UInt8} {us : List UInt8} (h : charP p u.toNat [u] = ([], .ok q)) : feedP p (u :: us) = feedP q us := by
  simp only [feedP, h, List.nil_append]
theorem feed_tok {p q : PS} {u : UInt8} {us : List UInt8} {t : Tok} (h : charP p u.toNat [u] = ([t], .ok q)) : feedP p (u :: us) = consT t (feedP q us) := by
  simp only [feedP, h, consT, List.cons_append, List.nil_append]
theorem feed_bad {p : PS} {u : UInt8} {us : List UInt8} {B L C : Int} (h : charP p u.toNat [u] = ([], .bad B L C)) : feedP p (u :: us) = ([], .bad B L C) := by
  simp only [feedP, h]
theorem mid_beg {S : List UInt8} {st i j : Nat} (h4 : 4 < st) : (mid S st i j).beg = mid S st i j := by
  unfold PS.beg
  rw [if_neg (show ¬ (mid S st i j).st ≤ 4 by show ¬ st ≤ 4; omega)]
theorem mid_cut0 {S : List UInt8} {st i j c : Nat} (h : folN st c ≠ 23) : (mid S st i j).cut c = mid S st i j := by
  unfold PS.cut
  rw [if_neg (show ¬ folN (mid S st i j).st c = 23 from h)]
theorem mid_told0 {S : List UInt8} {st i j c : Nat} (h : folN st c ≠ 23) : (mid S st i j).told c = [] := by
  unfold PS.told
  rw [if_neg (show ¬ folN (mid S st i j).st c = 23 from h)]
theorem mid_nxt {S : List UInt8} {st i j c : Nat} (h : folN st c ≠ 23) : nxt (mid S st i j).st c = folN st c := by
  unfold nxt
  rw [if_neg (show ¬ folN (mid S st i j).st c = 23 from h)]
  rfl
theorem mid_step {S : List UInt8} {st st' i j : Nat} (h4 : 4 < st) (hij : i ≤ j) (hj : j < S.length) (hf : folN st (byS S j) = st') (h4' : 4 < st') (hn : st' ≠ 5 ∧ st' ≠ 6 ∧ st' ≠ 9 ∧ st' ≠ 23 ∧ st' ≠ 24 ∧ st' ≠ 25) :
    feedP (mid S st i j) (S.drop j) = feedP (mid S st' i (j + 1)) (S.drop (j + 1)) := by
  have h23 : folN st (byS S j) ≠ 23 := by rw [hf]; exact hn.2.2.2.1
  rw [List.drop_eq_getElem_cons hj]
  refine feed_ok ?_
  rw [← byS_at hj]
  unfold charP
  rw [mid_nxt h23, mid_told0 h23, mid_cut0 h23, mid_beg h4, hf, if_neg hn.2.2.2.2.1, if_neg hn.2.2.2.2.2, if_neg (by omega)]
  by_cases h10 : byS S j = 10
  · rw [if_pos h10]
    simp only [PS.nrm, PS.add, mid, nlN_on, ahN_on, if_pos h10, if_neg (show ¬ st' ≤ 4 by omega), subS_succ hij hj, List.length_cons, List.length_nil, Nat.zero_add]
  · rw [if_neg h10]
    simp only [PS.nrm, PS.add, mid, nlN_on, ahN_on, if_neg h10, if_neg (show ¬ st' ≤ 4 by omega), subS_succ hij hj, List.length_cons, List.length_nil, Nat.zero_add]
theorem mid_bad24 {S : List UInt8} {st i j : Nat} (h4 : 4 < st) (hj : j < S.length) (hf : folN st (byS S j) = 24) : feedP (mid S st i j) (S.drop j) = ([], badAt S i) := by
  have h23 : folN st (byS S j) ≠ 23 := by rw [hf]; decide
  rw [List.drop_eq_getElem_cons hj]
  refine feed_bad ?_
  rw [← byS_at hj]
  unfold charP
  rw [mid_nxt h23, mid_told0 h23, mid_cut0 h23, mid_beg h4, hf, if_pos rfl]
  rfl
theorem mid_bad25 {S : List UInt8} {st i j : Nat} (h4 : 4 < st) (hj : j < S.length) (hf : folN st (byS S j) = 25) : feedP (mid S st i j) (S.drop j) = ([], badAt S j) := by
  have h23 : folN st (byS S j) ≠ 23 := by rw [hf]; decide
  rw [List.drop_eq_getElem_cons hj]
  refine feed_bad ?_
  rw [← byS_at hj]
  unfold charP
  rw [mid_nxt h23, mid_told0 h23, mid_cut0 h23, mid_beg h4, hf, if_neg (by decide), if_pos rfl]
  rfl
theorem mid_nine {S : List UInt8} {st i j : Nat} (h4 : 4 < st) (hij : i ≤ j) (hj : j < S.length) (hf : folN st (byS S j) = 9) (h10 : byS S j ≠ 10) :
    feedP (mid S st i j) (S.drop j) = consT ((mid S 9 i (j + 1)).tok (j + 1)) (feedP (frs S 3 (j + 1)) (S.drop (j + 1))) := by
  have h23 : folN st (byS S j) ≠ 23 := by rw [hf]; decide
  rw [List.drop_eq_getElem_cons hj]
  refine feed_tok ?_
  rw [← byS_at hj]
  unfold charP
  rw [mid_nxt h23, mid_told0 h23, mid_cut0 h23, mid_beg h4, hf, if_neg (by decide), if_neg (by decide), if_pos (by decide)]
  simp only [PS.nrm, PS.add, mid, frs, PS.tok, nlN_on, ahN_on, if_neg h10, if_pos (show (3 : Nat) ≤ 4 by decide), subS_succ hij hj, List.length_cons, List.length_nil, Nat.zero_add, List.nil_append]
theorem startN_ne (c : Nat) : startN c ≠ 23 ∧ startN c ≠ 24 ∧ startN c ≠ 9 := by
  have h := startN_in c
  generalize startN c = x at h
  simp only [List.mem_cons, List.not_mem_nil, or_false] at h
  omega
theorem fol3 (c : Nat) : folN 3 c = startN c := by simp [folN]
theorem nxt3 (c : Nat) : nxt 3 c = startN c := by
  unfold nxt
  rw [fol3, if_neg (startN_ne c).1]
/-- a byte that is none of it -/
theorem mid_cut {S : List UInt8} {st i j : Nat} (hj : j < S.length) (hf : folN st (byS S j) = 23) :
    feedP (mid S st i j) (S.drop j) = consT ((mid S st i j).tok j) (feedP (frs S 3 j) (S.drop j)) := by
  have key : charP (mid S st i j) (byS S j) [S[j]] = ((mid S st i j).tok j :: (charP (frs S 3 j) (byS S j) [S[j]]).1, (charP (frs S 3 j) (byS S j) [S[j]]).2) := by
    have e1 : nxt (mid S st i j).st (byS S j) = startN (byS S j) := by
      unfold nxt
      rw [if_pos (show folN (mid S st i j).st (byS S j) = 23 from hf)]
    have e2 : nxt (frs S 3 j).st (byS S j) = startN (byS S j) := nxt3 _
    have e3 : (mid S st i j).told (byS S j) = [(mid S st i j).tok j] := by
      unfold PS.told
      rw [if_pos (show folN (mid S st i j).st (byS S j) = 23 from hf)]
      rfl
    have f23 : ¬ folN (frs S 3 j).st (byS S j) = 23 := by show ¬ folN 3 _ = 23; rw [fol3]; exact (startN_ne _).1
    have e4 : (frs S 3 j).told (byS S j) = [] := by unfold PS.told; rw [if_neg f23]
    have e5 : ((mid S st i j).cut (byS S j)).beg = ((frs S 3 j).cut (byS S j)).beg := by
      unfold PS.cut
      rw [if_pos (show folN (mid S st i j).st (byS S j) = 23 from hf), if_neg f23]
      rfl
    unfold charP
    rw [e1, e2, e3, e4, e5]
    by_cases h24 : startN (byS S j) = 24
    · exact absurd h24 (startN_ne _).2.1
    by_cases h25 : startN (byS S j) = 25
    · rw [if_neg h24, if_pos h25, if_neg h24, if_pos h25]; rfl
    by_cases h5 : startN (byS S j) = 5 ∨ startN (byS S j) = 6 ∨ startN (byS S j) = 9
    · rw [if_neg h24, if_neg h25, if_pos h5, if_neg h24, if_neg h25, if_pos h5]; rfl
    by_cases h10 : byS S j = 10
    · rw [if_neg h24, if_neg h25, if_neg h5, if_pos h10, if_neg h24, if_neg h25, if_neg h5, if_pos h10] <;> rfl
    · rw [if_neg h24, if_neg h25, if_neg h5, if_neg h10, if_neg h24, if_neg h25, if_neg h5, if_neg h10] <;> rfl
  rw [List.drop_eq_getElem_cons hj]
  rw [byS_at hj] at key
  simp only [feedP, key]
  rcases charP (frs S 3 j) S[j].toNat [S[j]] with ⟨ts, o⟩
  cases o with
  | bad B L C => rfl
  | ok q => rfl
theorem frs_nxt (S : List UInt8) (j c : Nat) : nxt (frs S 3 j).st c = startN c := nxt3 c
theorem frs_told (S : List UInt8) (j c : Nat) : (frs S 3 j).told c = [] := by
  unfold PS.told
  rw [if_neg (show ¬ folN (frs S 3 j).st c = 23 by show ¬ folN 3 c = 23; rw [fol3]; exact (startN_ne c).1)]
theorem frs_cut (S : List UInt8) (j c : Nat) : (frs S 3 j).cut c = frs S 3 j := by
  unfold PS.cut
  rw [if_neg (show ¬ folN (frs S 3 j).st c = 23 by show ¬ folN 3 c = 23; rw [fol3]; exact (startN_ne c).1)]
theorem frs_beg (S : List UInt8) (j : Nat) : (frs S 3 j).beg = mid S 3 j j := by
  unfold PS.beg
  rw [if_pos (show (frs S 3 j).st ≤ 4 by show 3 ≤ 4; decide)]
  simp only [mid, subS_self, frs]
theorem frs_begin {S : List UInt8} {st' j : Nat} (hj : j < S.length) (hf : startN (byS S j) = st') (h4' : 4 < st') (hn : st' ≠ 5 ∧ st' ≠ 6 ∧ st' ≠ 25) (h10 : byS S j ≠ 10) :
    feedP (frs S 3 j) (S.drop j) = feedP (mid S st' j (j + 1)) (S.drop (j + 1)) := by
  have hs := startN_ne (byS S j)
  rw [hf] at hs
  rw [List.drop_eq_getElem_cons hj]
  refine feed_ok ?_
  rw [← byS_at hj]
  unfold charP
  rw [frs_nxt, frs_told, frs_cut, frs_beg, hf, if_neg hs.2.1, if_neg hn.2.2, if_neg (by omega), if_neg h10]
  simp only [PS.nrm, PS.add, mid, nlN_on, ahN_on, if_neg h10, if_neg (show ¬ st' ≤ 4 by omega), subS_succ (Nat.le_refl j) hj, List.length_cons, List.length_nil, Nat.zero_add]
theorem frs_one {S : List UInt8} {st' j : Nat} (hj : j < S.length) (hf : startN (byS S j) = st') (hn : st' = 5 ∨ st' = 6) (h10 : byS S j ≠ 10) :
    feedP (frs S 3 j) (S.drop j) = consT ((mid S st' j (j + 1)).tok (j + 1)) (feedP (frs S 3 (j + 1)) (S.drop (j + 1))) := by
  rw [List.drop_eq_getElem_cons hj]
  refine feed_tok ?_
  rw [← byS_at hj]
  unfold charP
  rw [frs_nxt, frs_told, frs_cut, frs_beg, hf, if_neg (by omega), if_neg (by omega), if_pos (by omega)]
  simp only [PS.nrm, PS.add, mid, frs, PS.tok, nlN_on, ahN_on, if_neg h10, if_pos (show (3 : Nat) ≤ 4 by decide), subS_succ (Nat.le_refl j) hj, List.length_cons, List.length_nil, Nat.zero_add, List.nil_append]
theorem frs_bad {S : List UInt8} {j : Nat} (hj : j < S.length) (hf : startN (byS S j) = 25) : feedP (frs S 3 j) (S.drop j) = ([], badAt S j) := by
  rw [List.drop_eq_getElem_cons hj]
  refine feed_bad ?_
  rw [← byS_at hj]
  unfold charP
  rw [frs_nxt, frs_told, frs_cut, hf, if_neg (by decide), if_pos rfl]
  rfl
theorem frs_gap {S : List UInt8} {st st' j : Nat} (hs : st = 3 ∨ st = 4) (hj : j < S.length) (hf : folN st (byS S j) = st') (h4 : st' ≤ 4) :
    feedP (frs S st j) (S.drop j) = feedP (frs S st' (j + 1)) (S.drop (j + 1)) := by
  have h23 : ¬ folN (frs S st j).st (byS S j) = 23 := by show ¬ folN st _ = 23; rw [hf]; omega
  have e1 : nxt (frs S st j).st (byS S j) = st' := by unfold nxt; rw [if_neg h23]; exact hf
  have e2 : (frs S st j).told (byS S j) = [] := by unfold PS.told; rw [if_neg h23]
  have e3 : (frs S st j).cut (byS S j) = frs S st j := by unfold PS.cut; rw [if_neg h23]
  have e4 : (frs S st j).beg = mid S st j j := by
    unfold PS.beg
    rw [if_pos (show (frs S st j).st ≤ 4 by show st ≤ 4; omega)]
    simp only [mid, subS_self, frs]
  rw [List.drop_eq_getElem_cons hj]
  refine feed_ok ?_
  rw [← byS_at hj]
  unfold charP
  rw [e1, e2, e3, e4, if_neg (by omega), if_neg (by omega), if_neg (by omega)]
  by_cases h10 : byS S j = 10
  · rw [if_pos h10]
    simp only [PS.nrm, PS.add, mid, frs, nlN_on, ahN_on, if_pos h10, if_pos h4, List.length_cons, List.length_nil, Nat.zero_add]
  · rw [if_neg h10]
    simp only [PS.nrm, PS.add, mid, frs, nlN_on, ahN_on, if_neg h10, if_pos h4, List.length_cons, List.length_nil, Nat.zero_add]

/-- a state that stays over the bytes of a sort -/
theorem run_feed {f : Nat → Bool} {st : Nat} (h4 : 4 < st) (hn : st ≠ 5 ∧ st ≠ 6 ∧ st ≠ 9 ∧ st ≠ 23 ∧ st ≠ 24 ∧ st ≠ 25) (hst : ∀ c, f c = true → folN st c = st) (S : List UInt8) (i j : Nat) (hij : i ≤ j) (hj : j ≤ S.length) :
    feedP (mid S st i j) (S.drop j) = feedP (mid S st i (runE f S j)) (S.drop (runE f S j)) := by
  by_cases h : j < S.length ∧ f (byS S j) = true
  · rw [runE_on h.1 h.2, mid_step h4 hij h.1 (hst _ h.2) h4 hn]
    exact run_feed h4 hn hst S i (j + 1) (by omega) (by omega)
  · rw [runE_off h]
termination_by S.length - j
decreasing_by omega
theorem fol4 (c : Nat) : folN 4 c = if c = 10 ∨ c = 13 then 3 else 4 := by simp [folN]
theorem fol34 {st c : Nat} (hs : st = 3 ∨ st = 4) (h : folN st c ≤ 4) : folN st c = 3 ∨ folN st c = 4 := by
  rcases hs with rfl | rfl
  · rw [fol3] at h ⊢
    rcases startN_low h with ⟨_, e⟩ | ⟨_, _, e⟩ <;> omega
  · rw [fol4]; split <;> omega
theorem gapE_spec (S : List UInt8) (st i : Nat) (hs : st = 3 ∨ st = 4) (hi : i ≤ S.length) : i ≤ gapE S st i ∧ gapE S st i ≤ S.length ∧ (gapE S st i < S.length → 4 < startN (byS S (gapE S st i))) ∧
    ∃ st', (st' = 3 ∨ st' = 4) ∧ (gapE S st i < S.length → st' = 3) ∧ feedP (frs S st i) (S.drop i) = feedP (frs S st' (gapE S st i)) (S.drop (gapE S st i)) := by
  by_cases h : i < S.length ∧ folN st (byS S i) ≤ 4
  · obtain ⟨a1, a2, a3, st', b1, b2, b3⟩ := gapE_spec S (folN st (byS S i)) (i + 1) (fol34 hs h.2) (by omega)
    rw [gapE_on h.1 h.2]
    refine ⟨by omega, a2, a3, st', b1, b2, ?_⟩
    rw [frs_gap hs h.1 rfl h.2]
    exact b3
  · rw [gapE_off h]
    have h3 : i < S.length → st = 3 ∧ 4 < startN (byS S i) := fun hl => by
      have h4 : ¬ folN st (byS S i) ≤ 4 := fun c => h ⟨hl, c⟩
      rcases hs with rfl | rfl
      · rw [fol3] at h4; exact ⟨rfl, by omega⟩
      · exfalso; rw [fol4] at h4; split at h4 <;> omega
    exact ⟨Nat.le_refl _, hi, fun hl => (h3 hl).2, st, hs, fun hl => (h3 hl).1, rfl⟩
termination_by S.length - i
decreasing_by omega
end Go.Proofs.YtpfmamimhhnbiaaGreatDoor

namespace Go.Proofs.YtpfmamimhhnbiaaGreatDoor
set_option linter.unusedVariables false
set_option linter.unusedSimpArgs false

/-- each two quotes as one, from the left -/
def undq : List UInt8 → List UInt8
  | [] => []
  | [a] => [a]
  | a :: b :: l => if a = 34 ∧ b = 34 then 34 :: undq l else a :: undq (b :: l)
theorem undq_none : ∀ (l : List UInt8), Lib.index l [34, 34] = -1 → undq l = l
  | [], _ => rfl
  | [a], _ => rfl
  | a :: b :: l, h => by
    rw [Lib.index] at h
    split at h
    · omega
    rename_i hp
    have h2 : Lib.index (b :: l) [34, 34] = -1 := by
      split at h
      · rename_i q; exact beq_iff_eq.1 q
      · have := Lib.index_ge (b :: l) [34, 34]; omega
    have h3 : ¬ (a = 34 ∧ b = 34) := fun c => hp (by rw [c.1, c.2]; simp [List.isPrefixOf])
    rw [undq, if_neg h3, undq_none (b :: l) h2]
theorem undq_some : ∀ (l : List UInt8) (i : Nat), Lib.index l [34, 34] = i → undq l = l.take i ++ [34] ++ undq (l.drop (i + 2))
  | [], i, h => by simp [Lib.index] at h
  | [a], i, h => by simp [Lib.index, List.isPrefixOf] at h
  | a :: b :: l, i, h => by
    rw [Lib.index] at h
    split at h
    · rename_i hp
      have hab : a = 34 ∧ b = 34 := by
        simp [List.isPrefixOf] at hp
        exact ⟨hp.1.symm, hp.2.symm⟩
      have hi : i = 0 := by omega
      subst hi
      rw [undq, if_pos hab]
      simp
    rename_i hp
    split at h
    · omega
    have h3 : ¬ (a = 34 ∧ b = 34) := fun c => hp (by rw [c.1, c.2]; simp [List.isPrefixOf])
    have hge := Lib.index_ge (b :: l) [34, 34]
    rename_i hm
    have hm2 : Lib.index (b :: l) [34, 34] ≠ -1 := fun c => hm (by rw [c]; rfl)
    cases i with
    | zero => omega
    | succ k =>
      rw [undq, if_neg h3, undq_some (b :: l) k (by omega)]
      simp
theorem repl_undq : ∀ (k : Nat) (l : List UInt8), Lib.count l [34, 34] = k → Lib.replaceK [34, 34] [34] k l = undq l
  | 0, l, h => by
    rw [Lib.replaceK]
    symm
    apply undq_none
    rcases Lib.index_spec l [34, 34] with ⟨c, _⟩ | ⟨i, hi, _⟩
    · exact c
    · rw [Lib.count_hit (by decide) hi] at h; omega
  | k + 1, l, h => by
    obtain ⟨i, hi⟩ := Lib.index_of_count (s := l) (old := [34, 34]) (by omega)
    rw [Lib.count_hit (by decide) hi] at h
    rw [Lib.replaceK_hit _ _ _ _ _ hi, undq_some l i hi, repl_undq k _ (by omega)]
    rfl
theorem replaceAll_undq (l : List UInt8) : Lib.replaceAll l [34, 34] [34] = undq l := by
  unfold Lib.replaceAll Lib.replace
  rw [if_neg (by decide)]
  refine repl_undq _ l ?_
  unfold Lib.replaceNum
  rw [if_pos (Or.inl (by decide))]
/-- quoted bytes, and what they say -/
inductive Qd : List UInt8 → List UInt8 → Prop
  | nil : Qd [] []
  | pair (l m : List UInt8) : Qd l m → Qd (l ++ [34, 34]) (m ++ [34])
  | one (l m : List UInt8) (u : UInt8) : u ≠ 34 → Qd l m → Qd (l ++ [u]) (m ++ [u])
theorem Qd.undq {l m : List UInt8} (h : Qd l m) : ∀ r, undq (l ++ r) = m ++ undq r := by
  induction h with
  | nil => intro r; rfl
  | pair l m _ ih =>
    intro r
    rw [List.append_assoc, ih, List.append_assoc]
    congr 1
  | one l m u hu _ ih =>
    intro r
    rw [List.append_assoc, ih, List.append_assoc]
    congr 1
    cases r with
    | nil => rfl
    | cons b r => show Go.Proofs.YtpfmamimhhnbiaaGreatDoor.undq (u :: b :: r) = u :: Go.Proofs.YtpfmamimhhnbiaaGreatDoor.undq (b :: r); rw [Go.Proofs.YtpfmamimhhnbiaaGreatDoor.undq, if_neg (fun c => hu c.1)]
theorem Qd.unq {l m : List UInt8} (h : Qd l m) : unq ⟨l.toArray⟩ = ⟨m.toArray⟩ := by
  unfold Go.Proofs.YtpfmamimhhnbiaaGreatDoor.unq
  have := h.undq []
  rw [List.append_nil] at this
  show (⟨(Lib.replaceAll l [34, 34] [34]).toArray⟩ : ByteArray) = _
  rw [replaceAll_undq, this]
  show (⟨(m ++ []).toArray⟩ : ByteArray) = _
  rw [List.append_nil]

def tokAt (S : List UInt8) (k : Nat) (t : ByteArray) (i e : Nat) : Tok := ⟨k, t, i, e, (nlN S i : Int) + 1, ((i - ahN S i : Nat) : Int) + 1⟩
def Stp (S : List UInt8) (i : Nat) : Seen → Prop
  | .tok k t e self => i < e ∧ e ≤ S.length ∧ k < 10 ∧ (self = true ∨ e < S.length → feedP (frs S 3 i) (S.drop i) = consT (tokAt S k t i e) (feedP (frs S 3 e) (S.drop e))) ∧
      (self = false → e = S.length → ∃ st, feedP (frs S 3 i) (S.drop i) = ([], .ok (mid S st i e)) ∧ 4 < st ∧ endP (mid S st i e) = ([tokAt S k t i e], 0))
  | .half code => ∃ st, feedP (frs S 3 i) (S.drop i) = ([], .ok (mid S st i S.length)) ∧ 4 < st ∧ endP (mid S st i S.length) = ([], code) ∧ (code = 120 ∨ code = 121)
  | .bad x => i ≤ x ∧ x < S.length ∧ feedP (frs S 3 i) (S.drop i) = ([], badAt S x)
theorem stp_end {S : List UInt8} {i e st k : Nat} {t : ByteArray} (hie : i < e) (he : e ≤ S.length) (hfeed : feedP (frs S 3 i) (S.drop i) = feedP (mid S st i e) (S.drop e)) (h4 : 4 < st) (h8 : st ≠ 8 ∧ st ≠ 21) (hk : kindN st = k) (hk0 : k ≠ 0) (hk9 : k < 10)
    (ht : txt st ⟨(subS S i e).toArray⟩ = t) (hf : e < S.length → folN st (byS S e) = 23) : Stp S i (.tok k t e false) := by
  have et : (mid S st i e).tok e = tokAt S k t i e := by
    unfold PS.tok tokAt
    show (⟨kindN st, txt st ⟨(subS S i e).toArray⟩, _, _, _, _⟩ : Tok) = _
    rw [hk, ht]
    rfl
  refine ⟨hie, he, hk9, fun c => ?_, fun _ c => ⟨st, ?_, h4, ?_⟩⟩
  · have hl : e < S.length := by rcases c with c | c; cases c; exact c
    rw [hfeed, mid_cut hl (hf hl), et]
  · rw [hfeed, c, List.drop_length]; rfl
  · unfold endP
    rw [if_neg (show ¬ ((mid S st i e).st = 8 ∨ (mid S st i e).st = 21) by show ¬ (st = 8 ∨ st = 21); omega), if_pos (show kindN (mid S st i e).st ≠ 0 by show kindN st ≠ 0; rw [hk]; exact hk0)]
    show ([(mid S st i e).tok e], (0 : Int)) = _
    rw [et]
theorem stp_half {S : List UInt8} {i st : Nat} {code : Int} (hfeed : feedP (frs S 3 i) (S.drop i) = feedP (mid S st i S.length) (S.drop S.length)) (h4 : 4 < st)
    (hc : ((st = 8 ∨ st = 21) ∧ code = 121) ∨ (¬ (st = 8 ∨ st = 21) ∧ kindN st = 0 ∧ code = 120)) : Stp S i (.half code) := by
  refine ⟨st, by rw [hfeed, List.drop_length]; rfl, h4, ?_, by omega⟩
  unfold endP
  rcases hc with ⟨c1, c2⟩ | ⟨c1, c2, c3⟩
  · rw [if_pos (show (mid S st i S.length).st = 8 ∨ (mid S st i S.length).st = 21 from c1), c2]
  · rw [if_neg (show ¬ ((mid S st i S.length).st = 8 ∨ (mid S st i S.length).st = 21) from c1), if_neg (show ¬ kindN (mid S st i S.length).st ≠ 0 by show ¬ kindN st ≠ 0; omega), if_pos (show 4 < (mid S st i S.length).st from h4), c3]
theorem u8_of {u : UInt8} {n : Nat} (h : u.toNat = n) (hn : n < 256) : u = UInt8.ofNat n := by
  apply UInt8.toNat_inj.1
  rw [h, UInt8.toNat_ofNat']
  omega
theorem txt_22 {S : List UInt8} {i j : Nat} {said : List UInt8} (hij : i < j) (hj : j < S.length) (hq : Qd (subS S (i + 1) j) said) : txt 22 ⟨(subS S i (j + 1)).toArray⟩ = bts said := by
  have e : txt 22 ⟨(subS S i (j + 1)).toArray⟩ = unq ((⟨(subS S i (j + 1)).toArray⟩ : ByteArray).extract 1 ((⟨(subS S i (j + 1)).toArray⟩ : ByteArray).size - 1)) := by unfold txt; simp
  have hz : (⟨(subS S i (j + 1)).toArray⟩ : ByteArray).size = j + 1 - i := by show (subS S i (j + 1)).toArray.size = _; rw [List.size_toArray, subS_len (by omega) (by omega)]
  rw [e, hz, bx, show j + 1 - i - 1 = j - i by omega, subS_take (by omega) (by omega), subS_drop, hq.unq]
  rfl
theorem txt_9 {S : List UInt8} {i j : Nat} (hij : i < j) (hj : j < S.length) : txt 9 ⟨(subS S i (j + 1)).toArray⟩ = bts (subS S (i + 1) j) := by
  have e : txt 9 ⟨(subS S i (j + 1)).toArray⟩ = ((⟨(subS S i (j + 1)).toArray⟩ : ByteArray).extract 1 ((⟨(subS S i (j + 1)).toArray⟩ : ByteArray).size - 1)) := by unfold txt; simp
  have hz : (⟨(subS S i (j + 1)).toArray⟩ : ByteArray).size = j + 1 - i := by show (subS S i (j + 1)).toArray.size = _; rw [List.size_toArray, subS_len (by omega) (by omega)]
  rw [e, hz, bx, show j + 1 - i - 1 = j - i by omega, subS_take (by omega) (by omega), subS_drop]
  rfl
theorem txt_cut {S : List UInt8} {st i e k : Nat} (hk : (st = 11 ∧ k = 1) ∨ ((st = 18 ∨ st = 20) ∧ k = 2)) : txt st ⟨(subS S i e).toArray⟩ = bts (subS S (i + k) e) := by
  have e1 : txt st ⟨(subS S i e).toArray⟩ = (⟨(subS S i e).toArray⟩ : ByteArray).extract k (⟨(subS S i e).toArray⟩ : ByteArray).size := by
    rcases hk with ⟨rfl, rfl⟩ | ⟨rfl | rfl, rfl⟩ <;> (unfold txt; simp)
  have hz : (⟨(subS S i e).toArray⟩ : ByteArray).size = (subS S i e).length := List.size_toArray
  rw [e1, bx, hz, List.take_length, subS_drop]
  rfl
theorem txt_plain {S : List UInt8} {st i e : Nat} (hk : st = 7 ∨ st = 12 ∨ st = 13 ∨ st = 15) : txt st ⟨(subS S i e).toArray⟩ = bts (subS S i e) := by
  rcases hk with rfl | rfl | rfl | rfl <;> (unfold txt bts; simp)

theorem qt_step {S : List UInt8} {i : Nat} (j : Nat) (said : List UInt8) (hij : i < j) (hj : j ≤ S.length) (hq : Qd (subS S (i + 1) j) said) (hfeed : feedP (frs S 3 i) (S.drop i) = feedP (mid S 21 i j) (S.drop j)) : Stp S i (qtP S j said) := by
  rw [qtP]
  by_cases hl : j < S.length
  · rw [dif_pos hl]
    by_cases h34 : byS S j = 34
    · rw [if_pos h34]
      have e34 : S[j] = 34 := u8_of (by rw [← byS_at hl]; exact h34) (by decide)
      have f1 : feedP (frs S 3 i) (S.drop i) = feedP (mid S 22 i (j + 1)) (S.drop (j + 1)) := by
        rw [hfeed]; exact mid_step (by decide) (by omega) hl (by rw [h34]; decide) (by decide) (by decide)
      by_cases h2 : j + 1 < S.length ∧ byS S (j + 1) = 34
      · rw [if_pos h2]
        have e342 : S[j + 1] = 34 := u8_of (by rw [← byS_at h2.1]; exact h2.2) (by decide)
        refine qt_step (j + 2) (said ++ [34]) (by omega) (by omega) ?_ ?_
        · rw [subS_succ (by omega) h2.1, subS_succ (by omega) hl, e34, e342, List.append_assoc]
          exact .pair _ _ hq
        · rw [f1]; exact mid_step (by decide) (by omega) h2.1 (by rw [h2.2]; decide) (by decide) (by decide)
      · rw [if_neg h2]
        refine stp_end (st := 22) (by omega) (by omega) f1 (by decide) (by decide) rfl (by decide) (by decide) (txt_22 hij hl hq) (fun hl2 => ?_)
        have : byS S (j + 1) ≠ 34 := fun c => h2 ⟨hl2, c⟩
        simp [folN, quotN, this]
    · rw [if_neg h34]
      by_cases hn : nqN (byS S j) = true
      · rw [if_pos hn]
        refine ⟨by omega, hl, ?_⟩
        rw [hfeed]
        exact mid_bad25 (by decide) hl (by simp [folN, quotN, h34, hn])
      · rw [if_neg hn]
        refine qt_step (j + 1) (said ++ [S[j]]) (by omega) (by omega) ?_ ?_
        · rw [subS_succ (by omega) hl]
          exact .one _ _ _ (fun c => h34 (by rw [byS_at hl, c]; rfl)) hq
        · rw [hfeed]; exact mid_step (by decide) (by omega) hl (by simp [folN, quotN, h34, hn]) (by decide) (by decide)
  · rw [dif_neg hl]
    have e : j = S.length := by omega
    subst e
    exact stp_half hfeed (by decide) (Or.inl ⟨Or.inr rfl, rfl⟩)
termination_by S.length - j
decreasing_by all_goals omega
theorem bar_step {S : List UInt8} {i : Nat} (j : Nat) (hij : i < j) (hj : j ≤ S.length) (hfeed : feedP (frs S 3 i) (S.drop i) = feedP (mid S 8 i j) (S.drop j)) : Stp S i (barP S i j) := by
  rw [barP]
  by_cases hl : j < S.length
  · rw [dif_pos hl]
    by_cases h124 : byS S j = 124
    · rw [if_pos h124]
      refine ⟨by omega, by omega, by decide, fun _ => ?_, fun c => by cases c⟩
      rw [hfeed, mid_nine (by decide) (by omega) hl (by rw [h124]; decide) (by omega)]
      congr 1
      unfold PS.tok tokAt
      show (⟨kindN 9, txt 9 ⟨(subS S i (j + 1)).toArray⟩, _, _, _, _⟩ : Tok) = _
      rw [txt_9 hij hl]
      rfl
    · rw [if_neg h124]
      by_cases hn : nbN (byS S j) = true
      · rw [if_pos hn]
        refine ⟨by omega, hl, ?_⟩
        rw [hfeed]
        exact mid_bad25 (by decide) hl (by simp [folN, quotN, h124, hn])
      · rw [if_neg hn]
        refine bar_step (j + 1) (by omega) (by omega) ?_
        rw [hfeed]; exact mid_step (by decide) (by omega) hl (by simp [folN, quotN, h124, hn]) (by decide) (by decide)
  · rw [dif_neg hl]
    have e : j = S.length := by omega
    subst e
    exact stp_half hfeed (by decide) (Or.inl ⟨Or.inl rfl, rfl⟩)
termination_by S.length - j
decreasing_by all_goals omega
theorem dg_sy {c : Nat} (h : dgN c = true) : syN c = true := by unfold syN; rw [h]; rfl
theorem dg_ne {c : Nat} (h : dgN c = true) : 48 ≤ c ∧ c ≤ 57 := by unfold dgN at h; simp at h; exact h
theorem hx_sy {c : Nat} (h : hxN c = true) : syN c = true := by
  unfold hxN at h
  unfold syN ltN
  simp at h ⊢
  rcases h with (h | h) | h
  · exact Or.inl (Or.inl h)
  · exact Or.inl (Or.inr (by omega))
  · exact Or.inl (Or.inr (by omega))
theorem start_dg {c : Nat} (h : dgN c = true) (h48 : c ≠ 48) : startN c = 13 := by
  obtain ⟨h1, h2⟩ := dg_ne h
  have hb : blN c = false := by unfold blN; simp; omega
  unfold startN
  rw [h, hb]
  simp [show c ≠ 59 by omega, show c ≠ 40 by omega, show c ≠ 41 by omega, show c ≠ 124 by omega, show c ≠ 34 by omega, show c ≠ 58 by omega, show c ≠ 35 by omega, h48]
theorem sy_ne {c : Nat} (h : syN c = true) : c ≠ 59 ∧ c ≠ 40 ∧ c ≠ 41 ∧ c ≠ 124 ∧ c ≠ 34 ∧ c ≠ 58 ∧ c ≠ 35 ∧ c ≠ 10 ∧ c ≠ 13 ∧ blN c = false := by
  have f : ∀ n, syN n = false → c ≠ n := fun n hn e => by rw [e, hn] at h; cases h
  refine ⟨f 59 (by decide), f 40 (by decide), f 41 (by decide), f 124 (by decide), f 34 (by decide), f 58 (by decide), f 35 (by decide), f 10 (by decide), f 13 (by decide), ?_⟩
  have h9 := f 9 (by decide)
  have h10 := f 10 (by decide)
  have h13 := f 13 (by decide)
  have h32 := f 32 (by decide)
  unfold blN
  simp [h9, h10, h13, h32]
theorem start_sy {c : Nat} (h : syN c = true) (hd : ¬ dgN c = true) : startN c = 7 := by
  obtain ⟨a1, a2, a3, a4, a5, a6, a7, a8, a9, a10⟩ := sy_ne h
  have h48 : c ≠ 48 := fun e => hd (by rw [e]; decide)
  unfold startN
  rw [a10, h]
  simp [a1, a2, a3, a4, a5, a6, a7, h48, hd]
theorem start_bad {c : Nat} (h : ¬ syN c = true) (hs : 4 < startN c) (hn : c ≠ 40 ∧ c ≠ 41 ∧ c ≠ 34 ∧ c ≠ 124 ∧ c ≠ 58 ∧ c ≠ 35) : startN c = 25 := by
  have hd : ¬ dgN c = true := fun e => h (dg_sy e)
  have h48 : c ≠ 48 := fun e => hd (by rw [e]; decide)
  unfold startN at hs ⊢
  rw [if_neg hn.1, if_neg hn.2.1, if_neg hn.2.2.2.1, if_neg hn.2.2.1, if_neg hn.2.2.2.2.1, if_neg hn.2.2.2.2.2, if_neg h48, if_neg hd, if_neg h] at hs ⊢
  by_cases h59 : c = 59
  · rw [if_pos h59] at hs; omega
  rw [if_neg h59] at hs ⊢
  by_cases hb : blN c = true
  · rw [if_pos hb] at hs; omega
  rw [if_neg hb]
theorem key_step {S : List UInt8} {i : Nat} (hi : i < S.length) (hc : byS S i = 58) : Stp S i (keyP S i) := by
  have f0 := frs_begin (st' := 10) hi (by rw [hc]; decide) (by decide) (by decide) (by omega)
  unfold keyP
  by_cases h1 : i + 1 = S.length
  · rw [if_pos h1]
    exact stp_half (st := 10) (by rw [f0, h1]) (by decide) (Or.inr ⟨by decide, rfl, rfl⟩)
  rw [if_neg h1]
  have hl : i + 1 < S.length := by omega
  by_cases h2 : syN (byS S (i + 1)) = true ∧ dgN (byS S (i + 1)) = false
  · rw [if_neg (fun c => c h2)]
    have hr := runE_spec syN S (i + 2) (by omega)
    have e : runE syN S (i + 1) = runE syN S (i + 2) := runE_on hl h2.1
    rw [e]
    refine stp_end (st := 11) (by omega) hr.2.1 ?_ (by decide) (by decide) rfl (by decide) (by decide) (txt_cut (Or.inl ⟨rfl, rfl⟩)) (fun hl2 => ?_)
    · rw [f0, mid_step (st' := 11) (by decide) (by omega) hl (by simp [folN, h2]) (by decide) (by decide)]
      exact run_feed (by decide) (by decide) (fun c h => by simp [folN, h]) S i (i + 2) (by omega) (by omega)
    · have := hr.2.2 hl2
      simp [folN, this]
  · rw [if_pos h2]
    refine ⟨Nat.le_refl _, hi, ?_⟩
    rw [f0]
    exact mid_bad24 (by decide) hl (by simp only [folN]; simp [h2])
theorem shq_step {S : List UInt8} {i st0 st k : Nat} {f : Nat → Bool} (hi : i + 2 ≤ S.length) (hst : (st0 = 17 ∧ st = 18 ∧ k = 7 ∧ f = hxN) ∨ (st0 = 19 ∧ st = 20 ∧ k = 8 ∧ f = biN))
    (hfeed : feedP (frs S 3 i) (S.drop i) = feedP (mid S st0 i (i + 2)) (S.drop (i + 2))) : Stp S i (shqP S i k (runE f S (i + 2))) := by
  have h0 : 4 < st0 := by omega
  have h1 : 4 < st := by omega
  have hk0 : kindN st0 = 0 := by rcases hst with ⟨rfl, _⟩ | ⟨rfl, _⟩ <;> rfl
  have hk1 : kindN st = k := by rcases hst with ⟨_, rfl, rfl, _⟩ | ⟨_, rfl, rfl, _⟩ <;> rfl
  have n0 : ∀ c, f c = true → folN st0 c = st := fun c h => by rcases hst with ⟨rfl, rfl, _, rfl⟩ | ⟨rfl, rfl, _, rfl⟩ <;> simp [folN, numN, h]
  have n1 : ∀ c, f c = true → folN st c = st := fun c h => by rcases hst with ⟨rfl, rfl, _, rfl⟩ | ⟨rfl, rfl, _, rfl⟩ <;> simp [folN, numN, h]
  have b0 : ∀ c, f c = false → folN st0 c = 24 := fun c h => by rcases hst with ⟨rfl, rfl, _, rfl⟩ | ⟨rfl, rfl, _, rfl⟩ <;> simp [folN, numN, h, kindN]
  have b1 : ∀ c, f c = false → syN c = true → folN st c = 24 := fun c h h2 => by rcases hst with ⟨rfl, rfl, _, rfl⟩ | ⟨rfl, rfl, _, rfl⟩ <;> simp [folN, numN, h, h2, kindN]
  have b2 : ∀ c, f c = false → ¬ syN c = true → folN st c = 23 := fun c h h2 => by rcases hst with ⟨rfl, rfl, _, rfl⟩ | ⟨rfl, rfl, _, rfl⟩ <;> simp [folN, numN, h, h2, kindN]
  have hr := runE_spec f S (i + 2) hi
  have htx : ∀ e, txt st ⟨(subS S i e).toArray⟩ = bts (subS S (i + 2) e) := fun e => txt_cut (Or.inr ⟨by omega, rfl⟩)
  have ff : runE f S (i + 2) ≠ i + 2 → feedP (frs S 3 i) (S.drop i) = feedP (mid S st i (runE f S (i + 2))) (S.drop (runE f S (i + 2))) := fun hne => by
    by_cases h : i + 2 < S.length ∧ f (byS S (i + 2)) = true
    · rw [hfeed, mid_step (st' := st) h0 (by omega) h.1 (n0 _ h.2) h1 (by omega), runE_on h.1 h.2]
      exact run_feed h1 (by omega) n1 S i (i + 3) (by omega) (by omega)
    · exact absurd (runE_off h) hne
  generalize runE f S (i + 2) = e at hr ff
  unfold shqP
  by_cases hle : e = S.length
  · rw [if_pos hle]
    by_cases he2 : e = i + 2
    · rw [if_pos he2]
      exact stp_half (st := st0) (by rw [hfeed, ← hle, he2]) h0 (Or.inr ⟨by omega, hk0, rfl⟩)
    · rw [if_neg he2]
      exact stp_end (st := st) (by omega) (by omega) (ff he2) h1 (by omega) hk1 (by omega) (by omega) (htx e) (fun c => absurd c (by omega))
  · rw [if_neg hle]
    have hl : e < S.length := by omega
    have hfe := hr.2.2 hl
    by_cases he2 : e = i + 2
    · rw [if_pos (Or.inl he2)]
      refine ⟨Nat.le_refl _, by omega, ?_⟩
      rw [hfeed, ← he2]
      exact mid_bad24 h0 hl (b0 _ hfe)
    · by_cases hsy : syN (byS S e) = true
      · rw [if_pos (Or.inr hsy)]
        refine ⟨Nat.le_refl _, by omega, ?_⟩
        rw [ff he2]
        exact mid_bad24 h1 hl (b1 _ hfe hsy)
      · rw [if_neg (fun c => by rcases c with c | c; exact he2 c; exact hsy c)]
        exact stp_end (st := st) (by omega) (by omega) (ff he2) h1 (by omega) hk1 (by omega) (by omega) (htx e) (fun c => b2 _ hfe hsy)
theorem shp_step {S : List UInt8} {i : Nat} (hi : i < S.length) (hc : byS S i = 35) : Stp S i (shpP S i) := by
  have f0 := frs_begin (st' := 16) hi (by rw [hc]; decide) (by decide) (by decide) (by omega)
  unfold shpP
  by_cases h1 : i + 1 = S.length
  · rw [if_pos h1]
    exact stp_half (st := 16) (by rw [f0, h1]) (by decide) (Or.inr ⟨by decide, rfl, rfl⟩)
  rw [if_neg h1]
  have hl : i + 1 < S.length := by omega
  by_cases h2 : byS S (i + 1) = 120
  · rw [if_pos h2]
    exact shq_step (st0 := 17) (st := 18) (by omega) (Or.inl ⟨rfl, rfl, rfl, rfl⟩) (by rw [f0]; exact mid_step (by decide) (by omega) hl (by rw [h2]; decide) (by decide) (by decide))
  rw [if_neg h2]
  by_cases h3 : byS S (i + 1) = 98
  · rw [if_pos h3]
    exact shq_step (st0 := 19) (st := 20) (by omega) (Or.inr ⟨rfl, rfl, rfl, rfl⟩) (by rw [f0]; exact mid_step (by decide) (by omega) hl (by rw [h3]; decide) (by decide) (by decide))
  rw [if_neg h3]
  refine ⟨Nat.le_refl _, hi, ?_⟩
  rw [f0]
  exact mid_bad24 (by decide) hl (by simp [folN, numN, kindN, h2, h3])
theorem nue_step {S : List UInt8} {i e st k : Nat} (hie : i < e) (he : e ≤ S.length) (hst : (st = 12 ∧ k = 5) ∨ (st = 13 ∧ k = 5) ∨ (st = 15 ∧ k = 6)) (hfeed : feedP (frs S 3 i) (S.drop i) = feedP (mid S st i e) (S.drop e))
    (hd : e < S.length → dgN (byS S e) = false ∧ (st ≠ 15 → byS S e ≠ 46)) : Stp S i (nueP S i k e) := by
  have hk1 : kindN st = k := by rcases hst with ⟨rfl, rfl⟩ | ⟨rfl, rfl⟩ | ⟨rfl, rfl⟩ <;> rfl
  unfold nueP
  by_cases h : e < S.length ∧ syN (byS S e) = true
  · rw [if_pos h]
    refine ⟨Nat.le_refl _, by omega, ?_⟩
    obtain ⟨d1, d2⟩ := hd h.1
    rw [hfeed]
    refine mid_bad24 (by omega) h.1 ?_
    have h2 := h.2
    generalize byS S e = c at d1 d2 h2
    rcases hst with ⟨rfl, rfl⟩ | ⟨rfl, rfl⟩ | ⟨rfl, rfl⟩
    · have := d2 (by decide); simp [folN, numN, kindN, d1, h2, this]
    · have := d2 (by decide); simp [folN, numN, kindN, d1, h2, this]
    · simp [folN, numN, kindN, d1, h2]
  · rw [if_neg h]
    refine stp_end (st := st) hie he hfeed (by omega) (by omega) hk1 (by omega) (by omega) (txt_plain (by omega)) (fun hl => ?_)
    obtain ⟨d1, d2⟩ := hd hl
    have h2 : ¬ syN (byS S e) = true := fun c => h ⟨hl, c⟩
    generalize byS S e = c at d1 d2 h2
    rcases hst with ⟨rfl, rfl⟩ | ⟨rfl, rfl⟩ | ⟨rfl, rfl⟩
    · have := d2 (by decide); simp [folN, numN, kindN, d1, h2, this]
    · have := d2 (by decide); simp [folN, numN, kindN, d1, h2, this]
    · simp [folN, numN, kindN, d1, h2]
theorem nub_step {S : List UInt8} {i e st : Nat} (hie : i < e) (he : e ≤ S.length) (hst : st = 12 ∨ st = 13) (hfeed : feedP (frs S 3 i) (S.drop i) = feedP (mid S st i e) (S.drop e))
    (hd : e < S.length → dgN (byS S e) = false) : Stp S i (nubP S i e) := by
  unfold nubP
  by_cases h : e < S.length ∧ byS S e = 46
  · rw [if_pos h]
    have f1 : feedP (frs S 3 i) (S.drop i) = feedP (mid S 14 i (e + 1)) (S.drop (e + 1)) := by
      rw [hfeed]
      refine mid_step (by omega) (by omega) h.1 ?_ (by decide) (by decide)
      rw [h.2]
      rcases hst with rfl | rfl <;> decide
    by_cases h1 : e + 1 = S.length
    · rw [if_pos h1]
      exact stp_half (st := 14) (by rw [f1, h1]) (by decide) (Or.inr ⟨by decide, rfl, rfl⟩)
    rw [if_neg h1]
    have hl : e + 1 < S.length := by omega
    by_cases h2 : dgN (byS S (e + 1)) = true
    · have hr := runE_spec dgN S (e + 2) (by omega)
      have er : runE dgN S (e + 1) = runE dgN S (e + 2) := runE_on hl h2
      rw [er, if_neg (by omega)]
      refine nue_step (st := 15) (by omega) hr.2.1 (Or.inr (Or.inr ⟨rfl, rfl⟩)) ?_ (fun hl2 => ⟨hr.2.2 hl2, fun c => absurd rfl c⟩)
      rw [f1, mid_step (st' := 15) (by decide) (by omega) hl (by simp [folN, numN, h2]) (by decide) (by decide)]
      exact run_feed (by decide) (by decide) (fun c hc => by simp [folN, numN, hc]) S i (e + 2) (by omega) (by omega)
    · rw [if_pos (runE_off (fun c => h2 c.2))]
      refine ⟨Nat.le_refl _, by omega, ?_⟩
      rw [f1]
      exact mid_bad24 (by decide) hl (by simp [folN, numN, kindN, h2])
  · rw [if_neg h]
    exact nue_step (st := st) hie he (by omega) hfeed (fun hl => ⟨hd hl, fun _ c => h ⟨hl, c⟩⟩)
theorem num_step {S : List UInt8} {i : Nat} (hi : i < S.length) (hc : dgN (byS S i) = true) : Stp S i (numP S i) := by
  have hr := runE_spec dgN S (i + 1) (by omega)
  have er : runE dgN S i = runE dgN S (i + 1) := runE_on hi hc
  obtain ⟨r1, r2⟩ := dg_ne hc
  unfold numP
  rw [er]
  by_cases h48 : byS S i = 48
  · have f0 := frs_begin (st' := 12) hi (by rw [h48]; decide) (by decide) (by decide) (by omega)
    by_cases h1 : i + 1 < S.length ∧ dgN (byS S (i + 1)) = true
    · have hr2 := runE_spec dgN S (i + 2) (by omega)
      have er2 : runE dgN S (i + 1) = runE dgN S (i + 2) := runE_on h1.1 h1.2
      rw [if_pos ⟨h48, by omega⟩]
      refine ⟨Nat.le_refl _, hi, ?_⟩
      rw [f0]
      obtain ⟨q1, q2⟩ := dg_ne h1.2
      exact mid_bad24 (by decide) h1.1 (by simp [folN, numN, kindN, dg_sy h1.2, show byS S (i + 1) ≠ 46 by omega])
    · have e1 := runE_off h1
      rw [e1, if_neg (by omega)]
      refine nub_step (st := 12) (by omega) (by omega) (Or.inl rfl) f0 (fun hl => ?_)
      rcases hb : dgN (byS S (i + 1)) with _ | _
      · rfl
      · exact absurd ⟨hl, hb⟩ h1
  · have f0 := frs_begin (st' := 13) hi (start_dg hc h48) (by decide) (by decide) (by omega)
    rw [if_neg (fun c => h48 c.1)]
    refine nub_step (st := 13) (by omega) hr.2.1 (Or.inr rfl) ?_ hr.2.2
    rw [f0]
    exact run_feed (by decide) (by decide) (fun c h => by have := dg_ne h; simp [folN, numN, h, show c ≠ 46 by omega]) S i (i + 1) (by omega) (by omega)
theorem look_step {S : List UInt8} {i : Nat} (hi : i < S.length) (hs : 4 < startN (byS S i)) : Stp S i (lookP S i) := by
  unfold lookP
  have one : ∀ (st k : Nat) (u : UInt8), byS S i = u.toNat → startN (byS S i) = st → (st = 5 ∨ st = 6) → kindN st = k → byS S i ≠ 10 → k < 10 → Stp S i (.tok k ⟨#[u]⟩ (i + 1) true) := fun st k u hu e h56 hk h10 hk9 => by
    refine ⟨by omega, by omega, hk9, fun _ => ?_, fun c => by cases c⟩
    rw [frs_one hi e h56 h10]
    congr 1
    unfold PS.tok tokAt
    show (⟨kindN st, txt st ⟨(subS S i (i + 1)).toArray⟩, _, _, _, _⟩ : Tok) = _
    have et : txt st ⟨(subS S i (i + 1)).toArray⟩ = ⟨#[u]⟩ := by
      have hu2 : S[i] = u := UInt8.toNat_inj.1 (by rw [← byS_at hi]; exact hu)
      rw [subS_succ (Nat.le_refl i) hi, subS_self, hu2]
      rcases h56 with rfl | rfl <;> (unfold txt; simp)
    rw [hk, et]
    rfl
  by_cases h40 : byS S i = 40
  · rw [if_pos h40]; exact one 5 1 40 h40 (by rw [h40]; decide) (Or.inl rfl) rfl (by omega) (by decide)
  rw [if_neg h40]
  by_cases h41 : byS S i = 41
  · rw [if_pos h41]; exact one 6 2 41 h41 (by rw [h41]; decide) (Or.inr rfl) rfl (by omega) (by decide)
  rw [if_neg h41]
  by_cases h34 : byS S i = 34
  · rw [if_pos h34]
    exact qt_step (i + 1) [] (by omega) (by omega) (by rw [subS_self]; exact .nil) (frs_begin (st' := 21) hi (by rw [h34]; decide) (by decide) (by decide) (by omega))
  rw [if_neg h34]
  by_cases h124 : byS S i = 124
  · rw [if_pos h124]
    exact bar_step (i + 1) (by omega) (by omega) (frs_begin (st' := 8) hi (by rw [h124]; decide) (by decide) (by decide) (by omega))
  rw [if_neg h124]
  by_cases h58 : byS S i = 58
  · rw [if_pos h58]; exact key_step hi h58
  rw [if_neg h58]
  by_cases h35 : byS S i = 35
  · rw [if_pos h35]; exact shp_step hi h35
  rw [if_neg h35]
  by_cases hd : dgN (byS S i) = true
  · rw [if_pos hd]; exact num_step hi hd
  rw [if_neg hd]
  by_cases hsy : syN (byS S i) = true
  · rw [if_pos hsy]
    have hr := runE_spec syN S (i + 1) (by omega)
    have er : runE syN S i = runE syN S (i + 1) := runE_on hi hsy
    rw [er]
    refine stp_end (st := 7) (by omega) hr.2.1 ?_ (by decide) (by decide) rfl (by decide) (by decide) (txt_plain (Or.inl rfl)) (fun hl => ?_)
    · rw [frs_begin (st' := 7) hi (start_sy hsy hd) (by decide) (by decide) (sy_ne hsy).2.2.2.2.2.2.2.1]
      exact run_feed (by decide) (by decide) (fun c h => by simp [folN, h]) S i (i + 1) (by omega) (by omega)
    · have := hr.2.2 hl
      simp [folN, this]
  · rw [if_neg hsy]
    exact ⟨Nat.le_refl _, hi, frs_bad hi (start_bad hsy hs ⟨h40, h41, h34, h124, h58, h35⟩)⟩
end Go.Proofs.YtpfmamimhhnbiaaGreatDoor

namespace Go.Proofs.YtpfmamimhhnbiaaGreatDoor
set_option linter.unusedVariables false
set_option linter.unusedSimpArgs false

/-- all that is told from here on: tokens, the error, and where it stands -/
def tot : List Tok × Out → List Tok × Int × Int × Int × Int
  | (ts, .bad B L C) => (ts, 120, B, L, C)
  | (ts, .ok q) => (ts ++ (endP q).1, (endP q).2, if (endP q).2 = 0 then (0, 0, 0) else (q.bB, q.bL, q.bC))
def allF (S : List UInt8) (k : Nat) : List Tok × Int × Int × Int × Int := tot (feedP (frs S 3 k) (S.drop k))
theorem tot_cons (t : Tok) (r : List Tok × Out) : tot (consT t r) = (t :: (tot r).1, (tot r).2) := by
  rcases r with ⟨ts, o⟩
  cases o <;> rfl
theorem frs_pI (S : List UInt8) : frs S 3 0 = pI := rfl
theorem allF_zero (S : List UInt8) : (allF S 0).1 = (allP S).1 ∧ (allF S 0).2.1 = (allP S).2 ∧ ((allP S).2 ≠ 0 → (allF S 0).2.2 = allE S) := by
  unfold allF allP allE
  rw [frs_pI, List.drop_zero]
  rcases feedP pI S with ⟨ts, o⟩
  cases o with
  | bad B L C => exact ⟨rfl, rfl, fun _ => rfl⟩
  | ok q => exact ⟨rfl, rfl, fun c => if_neg c⟩
theorem allF_none {S : List UInt8} {st : Nat} (hs : st = 3 ∨ st = 4) : tot (feedP (frs S st S.length) (S.drop S.length)) = ([], 0, 0, 0, 0) := by
  rw [List.drop_length]
  rcases hs with rfl | rfl <;> rfl
theorem allF_end (S : List UInt8) : allF S S.length = ([], 0, 0, 0, 0) := allF_none (Or.inl rfl)
/-- over blanks and comments -/
theorem allF_gap {S : List UInt8} {k : Nat} (hk : k ≤ S.length) : allF S (gapE S 3 k) = allF S k := by
  obtain ⟨a1, a2, a3, st', b1, b2, b3⟩ := gapE_spec S 3 k (Or.inl rfl) hk
  unfold allF
  rw [b3]
  by_cases h : gapE S 3 k < S.length
  · rw [b2 h]
  · have e : gapE S 3 k = S.length := by omega
    rw [e, allF_none b1, allF_none (Or.inl rfl)]
theorem allF_tok {S : List UInt8} {i k e : Nat} {t : ByteArray} {self : Bool} (h : Stp S i (.tok k t e self)) : allF S i = (tokAt S k t i e :: (allF S e).1, (allF S e).2) := by
  obtain ⟨h1, h2, _, h3, h4⟩ := h
  by_cases hc : self = true ∨ e < S.length
  · unfold allF
    rw [h3 hc, tot_cons]
  · have hs : self = false := by cases self; rfl; exact absurd (Or.inl rfl) hc
    have he : e = S.length := by
      rcases Nat.lt_or_ge e S.length with q | q
      · exact absurd (Or.inr q) hc
      · omega
    obtain ⟨st, f1, f2, f3⟩ := h4 hs he
    have e2 : allF S e = ([], 0, 0, 0, 0) := by rw [he]; exact allF_end S
    rw [e2]
    unfold allF
    rw [f1]
    simp only [tot]
    rw [f3]
    rfl
theorem allF_half {S : List UInt8} {i : Nat} {code : Int} (h : Stp S i (.half code)) : code ≠ 0 ∧ allF S i = ([], code, (i : Int), (nlN S i : Int) + 1, ((i - ahN S i : Nat) : Int) + 1) := by
  obtain ⟨st, f1, f2, f3, f4⟩ := h
  have hc : code ≠ 0 := by omega
  refine ⟨hc, ?_⟩
  unfold allF
  rw [f1]
  simp only [tot]
  rw [f3]
  simp only [if_neg hc]
  rfl
theorem allF_bad {S : List UInt8} {i x : Nat} (h : Stp S i (.bad x)) : allF S i = ([], 120, (x : Int), (nlN S x : Int) + 1, ((x - ahN S x : Nat) : Int) + 1) := by
  obtain ⟨_, _, h⟩ := h
  unfold allF
  rw [h]
  rfl
end Go.Proofs.YtpfmamimhhnbiaaGreatDoor

namespace Go.Proofs.YtpfmamimhhnbiaaGreatDoor
set_option linter.unusedVariables false
set_option linter.unusedSimpArgs false

/-- tokens, the error, and where it is or where what is open begins -/
def rdO (fin : Bool) (n : Nat) : List Tok × Out → List Tok × Int × Int
  | (ts, .bad B L C) => (ts, 120, B)
  | (ts, .ok q) => if fin = true then (ts ++ (endP q).1, (endP q).2, if (endP q).2 = 0 then (n : Int) else q.bB) else (ts, 0, if 4 < q.st then q.bB else (n : Int))
def rdF (fin : Bool) (S : List UInt8) (k : Nat) : List Tok × Int × Int := rdO fin S.length (feedP (frs S 3 k) (S.drop k))
theorem rdO_cons (fin : Bool) (n : Nat) (t : Tok) (r : List Tok × Out) : rdO fin n (consT t r) = (t :: (rdO fin n r).1, (rdO fin n r).2) := by
  rcases r with ⟨ts, o⟩
  cases o with
  | bad B L C => rfl
  | ok q => cases fin <;> rfl
theorem rdF_none {S : List UInt8} {st : Nat} (fin : Bool) (hs : st = 3 ∨ st = 4) : rdO fin S.length (feedP (frs S st S.length) (S.drop S.length)) = ([], 0, (S.length : Int)) := by
  rw [List.drop_length]
  rcases hs with rfl | rfl <;> cases fin <;> rfl
theorem rdF_end (fin : Bool) (S : List UInt8) : rdF fin S S.length = ([], 0, (S.length : Int)) := rdF_none fin (Or.inl rfl)
theorem rdF_gap {S : List UInt8} {k : Nat} (fin : Bool) (hk : k ≤ S.length) : rdF fin S (gapE S 3 k) = rdF fin S k := by
  obtain ⟨a1, a2, a3, st', b1, b2, b3⟩ := gapE_spec S 3 k (Or.inl rfl) hk
  unfold rdF
  rw [b3]
  by_cases h : gapE S 3 k < S.length
  · rw [b2 h]
  · have e : gapE S 3 k = S.length := by omega
    rw [e, rdF_none fin b1, rdF_none fin (Or.inl rfl)]
theorem rdF_tok {S : List UInt8} {i k e : Nat} {t : ByteArray} {self fin : Bool} (h : Stp S i (.tok k t e self)) (ho : ¬ (self = false ∧ e = S.length ∧ fin = false)) : rdF fin S i = (tokAt S k t i e :: (rdF fin S e).1, (rdF fin S e).2) := by
  obtain ⟨h1, h2, _, h3, h4⟩ := h
  by_cases hc : self = true ∨ e < S.length
  · unfold rdF
    rw [h3 hc, rdO_cons]
  · have hs : self = false := by cases self; rfl; exact absurd (Or.inl rfl) hc
    have he : e = S.length := by
      rcases Nat.lt_or_ge e S.length with q | q
      · exact absurd (Or.inr q) hc
      · omega
    have hf : fin = true := by cases fin; exact absurd ⟨hs, he, rfl⟩ ho; rfl
    subst hf
    obtain ⟨st, f1, f2, f3⟩ := h4 hs he
    have e2 : rdF true S e = ([], 0, (S.length : Int)) := by rw [he]; exact rdF_end true S
    rw [e2]
    unfold rdF
    rw [f1]
    simp only [rdO]
    rw [f3]
    rfl
theorem rdF_open {S : List UInt8} {i k e : Nat} {t : ByteArray} (h : Stp S i (.tok k t e false)) (he : e = S.length) : rdF false S i = ([], 0, (i : Int)) := by
  obtain ⟨h1, h2, _, h3, h4⟩ := h
  obtain ⟨st, f1, f2, f3⟩ := h4 rfl he
  unfold rdF
  rw [f1]
  simp only [rdO]
  rw [if_pos (show 4 < (mid S st i e).st from f2)]
  rfl
theorem rdF_half {S : List UInt8} {i : Nat} {code : Int} (h : Stp S i (.half code)) : rdF true S i = ([], code, (i : Int)) ∧ rdF false S i = ([], 0, (i : Int)) := by
  obtain ⟨st, f1, f2, f3, f4⟩ := h
  have hc : code ≠ 0 := by omega
  unfold rdF
  rw [f1]
  simp only [rdO]
  rw [f3]
  refine ⟨?_, ?_⟩
  · simp only [if_neg hc]
    rfl
  · rw [if_pos (show 4 < (mid S st i S.length).st from f2)]
    rfl
theorem rdF_bad {S : List UInt8} {i x : Nat} (fin : Bool) (h : Stp S i (.bad x)) : rdF fin S i = ([], 120, (x : Int)) := by
  obtain ⟨_, _, h⟩ := h
  unfold rdF
  rw [h]
  rfl
/-- an error's line and column are its place's -/
theorem allF_place (S : List UInt8) (k : Nat) (hk : k ≤ S.length) (hc : (allF S k).2.1 ≠ 0) : ∃ b : Nat, b < S.length ∧ (allF S k).2.2 = ((b : Int), (nlN S b : Int) + 1, ((b - ahN S b : Nat) : Int) + 1) := by
  obtain ⟨a1, a2, a3, _⟩ := gapE_spec S 3 k (Or.inl rfl) hk
  have eg := allF_gap hk
  rw [← eg] at hc ⊢
  by_cases hl : gapE S 3 k < S.length
  · have hs := look_step hl (a3 hl)
    rcases hX : lookP S (gapE S 3 k) with ⟨kk, t, e, self⟩ | code | x
    · rw [hX] at hs
      have h1 := hs.1
      have h2 := hs.2.1
      have ht := allF_tok hs
      rw [ht] at hc ⊢
      exact allF_place S e h2 hc
    · rw [hX] at hs
      exact ⟨_, hl, by rw [(allF_half hs).2]⟩
    · rw [hX] at hs
      have h1 := hs.2.1
      exact ⟨x, h1, by rw [allF_bad hs]⟩
  · have e : gapE S 3 k = S.length := by omega
    rw [e, allF_end] at hc
    exact absurd rfl hc
termination_by S.length - k
decreasing_by omega
theorem rdF_zero (S : List UInt8) : (rdF true S 0).1 = (allP S).1 ∧ (rdF true S 0).2.1 = (allP S).2 ∧ ((allP S).2 ≠ 0 → ∃ b : Nat, b < S.length ∧ (rdF true S 0).2.2 = (b : Int) ∧ allE S = ((b : Int), (nlN S b : Int) + 1, ((b - ahN S b : Nat) : Int) + 1)) := by
  obtain ⟨z1, z2, z3⟩ := allF_zero S
  have hp := allF_place S 0 (Nat.zero_le _)
  have key : (rdF true S 0).1 = (allF S 0).1 ∧ (rdF true S 0).2.1 = (allF S 0).2.1 ∧ ((allF S 0).2.1 ≠ 0 → (rdF true S 0).2.2 = (allF S 0).2.2.1) := by
    unfold rdF allF
    rcases feedP (frs S 3 0) (S.drop 0) with ⟨ts, o⟩
    cases o with
    | bad B L C => exact ⟨rfl, rfl, fun _ => rfl⟩
    | ok q =>
      simp only [rdO, tot]
      refine ⟨rfl, rfl, fun c => ?_⟩
      have c2 : (endP q).2 ≠ 0 := c
      simp only [if_neg c2, if_true]
  refine ⟨key.1.trans z1, key.2.1.trans z2, fun c => ?_⟩
  have c2 : (allF S 0).2.1 ≠ 0 := by rw [z2]; exact c
  obtain ⟨b, hb, e⟩ := hp c2
  refine ⟨b, hb, ?_, ?_⟩
  · rw [key.2.2 c2, e]
  · rw [← z3 c, e]
end Go.Proofs.YtpfmamimhhnbiaaGreatDoor
