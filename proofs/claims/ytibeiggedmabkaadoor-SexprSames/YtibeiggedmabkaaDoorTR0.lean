/-
  A scanner's bytes, from place to place.
-/
import Derived.Test.YtibeiggedmabkaaDoorTSA
import Derived.Test.YtibeiggedmabkaaDoorTRA
namespace Go.Proofs.YtibeiggedmabkaaDoor
set_option linter.unusedVariables false
set_option linter.unusedSimpArgs false

/-- nothing is waited for: at a place -/
def frs (S : List UInt8) (st j : Nat) : PS := ⟨st, [], 0, 0, 0, j, nlN S j, ahN S j⟩
/-- something that began at i -/
def mid (S : List UInt8) (st i j : Nat) : PS := ⟨st, subS S i j, i, (nlN S i : Int) + 1, ((i - ahN S i : Nat) : Int) + 1, j, nlN S j, ahN S j⟩
def consT (t : Tok) (r : List Tok × Out) : List Tok × Out := (t :: r.1, r.2)
/-- an error at a place -/
def badAt (S : List UInt8) (x : Nat) : Out := .bad x ((nlN S x : Int) + 1) (((x - ahN S x : Nat) : Int) + 1)

theorem nlN_on (S : List UInt8) (j : Nat) : nlN S (j + 1) = if byS S j = 10 then nlN S j + 1 else nlN S j := rfl
theorem ahN_on (S : List UInt8) (j : Nat) : ahN S (j + 1) = if byS S j = 10 then j + 1 else ahN S j := rfl
theorem feed_ok {p q : PS} {u : UInt8} {us : List UInt8} (h : charP p u.toNat [u] = ([], .ok q)) : feedP p (u :: us) = feedP q us := by
  simp only [feedP, h, List.nil_append]
theorem feed_tok {p q : PS} {u : UInt8} {us : List UInt8} {t : Tok} (h : charP p u.toNat [u] = ([t], .ok q)) : feedP p (u :: us) = consT t (feedP q us) := by
  simp only [feedP, h, consT, List.cons_append, List.nil_append]
theorem feed_bad {p : PS} {u : UInt8} {us : List UInt8} {B L C : Int} (h : charP p u.toNat [u] = ([], .bad B L C)) : feedP p (u :: us) = ([], .bad B L C) := by
  simp only [feedP, h]
theorem mid_beg {S : List UInt8} {st i j : Nat} (h4 : 4 < st) : (mid S st i j).beg = mid S st i j := by
  unfold PS.beg
  rw [if_neg (show ¬ (mid S st i j).st ≤ 4 by show ¬ st ≤ 4; omega)]
theorem mid_cut0 {S : List UInt8} {st i j c : Nat} (h : folN st c ≠ 23) : (mid S st i j).cut c = mid S st i j := by
  unfold PS.cut
  rw [if_neg (show ¬ folN (mid S st i j).st c = 23 from h)]
theorem mid_told0 {S : List UInt8} {st i j c : Nat} (h : folN st c ≠ 23) : (mid S st i j).told c = [] := by
  unfold PS.told
  rw [if_neg (show ¬ folN (mid S st i j).st c = 23 from h)]
theorem mid_nxt {S : List UInt8} {st i j c : Nat} (h : folN st c ≠ 23) : nxt (mid S st i j).st c = folN st c := by
  unfold nxt
  rw [if_neg (show ¬ folN (mid S st i j).st c = 23 from h)]
  rfl
theorem mid_step {S : List UInt8} {st st' i j : Nat} (h4 : 4 < st) (hij : i ≤ j) (hj : j < S.length) (hf : folN st (byS S j) = st') (h4' : 4 < st') (hn : st' ≠ 5 ∧ st' ≠ 6 ∧ st' ≠ 9 ∧ st' ≠ 23 ∧ st' ≠ 24 ∧ st' ≠ 25) :
    feedP (mid S st i j) (S.drop j) = feedP (mid S st' i (j + 1)) (S.drop (j + 1)) := by
  have h23 : folN st (byS S j) ≠ 23 := by rw [hf]; exact hn.2.2.2.1
  rw [List.drop_eq_getElem_cons hj]
  refine feed_ok ?_
  rw [← byS_at hj]
  unfold charP
  rw [mid_nxt h23, mid_told0 h23, mid_cut0 h23, mid_beg h4, hf, if_neg hn.2.2.2.2.1, if_neg hn.2.2.2.2.2, if_neg (by omega)]
  by_cases h10 : byS S j = 10
  · rw [if_pos h10]
    simp only [PS.nrm, PS.add, mid, nlN_on, ahN_on, if_pos h10, if_neg (show ¬ st' ≤ 4 by omega), subS_succ hij hj, List.length_cons, List.length_nil, Nat.zero_add]
  · rw [if_neg h10]
    simp only [PS.nrm, PS.add, mid, nlN_on, ahN_on, if_neg h10, if_neg (show ¬ st' ≤ 4 by omega), subS_succ hij hj, List.length_cons, List.length_nil, Nat.zero_add]
theorem mid_bad24 {S : List UInt8} {st i j : Nat} (h4 : 4 < st) (hj : j < S.length) (hf : folN st (byS S j) = 24) : feedP (mid S st i j) (S.drop j) = ([], badAt S i) := by
  have h23 : folN st (byS S j) ≠ 23 := by rw [hf]; decide
  rw [List.drop_eq_getElem_cons hj]
  refine feed_bad ?_
  rw [← byS_at hj]
  unfold charP
  rw [mid_nxt h23, mid_told0 h23, mid_cut0 h23, mid_beg h4, hf, if_pos rfl]
  rfl
theorem mid_bad25 {S : List UInt8} {st i j : Nat} (h4 : 4 < st) (hj : j < S.length) (hf : folN st (byS S j) = 25) : feedP (mid S st i j) (S.drop j) = ([], badAt S j) := by
  have h23 : folN st (byS S j) ≠ 23 := by rw [hf]; decide
  rw [List.drop_eq_getElem_cons hj]
  refine feed_bad ?_
  rw [← byS_at hj]
  unfold charP
  rw [mid_nxt h23, mid_told0 h23, mid_cut0 h23, mid_beg h4, hf, if_neg (by decide), if_pos rfl]
  rfl
theorem mid_nine {S : List UInt8} {st i j : Nat} (h4 : 4 < st) (hij : i ≤ j) (hj : j < S.length) (hf : folN st (byS S j) = 9) (h10 : byS S j ≠ 10) :
    feedP (mid S st i j) (S.drop j) = consT ((mid S 9 i (j + 1)).tok (j + 1)) (feedP (frs S 3 (j + 1)) (S.drop (j + 1))) := by
  have h23 : folN st (byS S j) ≠ 23 := by rw [hf]; decide
  rw [List.drop_eq_getElem_cons hj]
  refine feed_tok ?_
  rw [← byS_at hj]
  unfold charP
  rw [mid_nxt h23, mid_told0 h23, mid_cut0 h23, mid_beg h4, hf, if_neg (by decide), if_neg (by decide), if_pos (by decide)]
  simp only [PS.nrm, PS.add, mid, frs, PS.tok, nlN_on, ahN_on, if_neg h10, if_pos (show (3 : Nat) ≤ 4 by decide), subS_succ hij hj, List.length_cons, List.length_nil, Nat.zero_add, List.nil_append]
theorem startN_ne (c : Nat) : startN c ≠ 23 ∧ startN c ≠ 24 ∧ startN c ≠ 9 := by
  have h := startN_in c
  generalize startN c = x at h
  simp only [List.mem_cons, List.not_mem_nil, or_false] at h
  omega
theorem fol3 (c : Nat) : folN 3 c = startN c := by simp [folN]
theorem nxt3 (c : Nat) : nxt 3 c = startN c := by
  unfold nxt
  rw [fol3, if_neg (startN_ne c).1]
/-- a byte that is none of it -/
theorem mid_cut {S : List UInt8} {st i j : Nat} (hj : j < S.length) (hf : folN st (byS S j) = 23) :
    feedP (mid S st i j) (S.drop j) = consT ((mid S st i j).tok j) (feedP (frs S 3 j) (S.drop j)) := by
  have key : charP (mid S st i j) (byS S j) [S[j]] = ((mid S st i j).tok j :: (charP (frs S 3 j) (byS S j) [S[j]]).1, (charP (frs S 3 j) (byS S j) [S[j]]).2) := by
    have e1 : nxt (mid S st i j).st (byS S j) = startN (byS S j) := by
      unfold nxt
      rw [if_pos (show folN (mid S st i j).st (byS S j) = 23 from hf)]
    have e2 : nxt (frs S 3 j).st (byS S j) = startN (byS S j) := nxt3 _
    have e3 : (mid S st i j).told (byS S j) = [(mid S st i j).tok j] := by
      unfold PS.told
      rw [if_pos (show folN (mid S st i j).st (byS S j) = 23 from hf)]
      rfl
    have f23 : ¬ folN (frs S 3 j).st (byS S j) = 23 := by show ¬ folN 3 _ = 23; rw [fol3]; exact (startN_ne _).1
    have e4 : (frs S 3 j).told (byS S j) = [] := by unfold PS.told; rw [if_neg f23]
    have e5 : ((mid S st i j).cut (byS S j)).beg = ((frs S 3 j).cut (byS S j)).beg := by
      unfold PS.cut
      rw [if_pos (show folN (mid S st i j).st (byS S j) = 23 from hf), if_neg f23]
      rfl
    unfold charP
    rw [e1, e2, e3, e4, e5]
    by_cases h24 : startN (byS S j) = 24
    · exact absurd h24 (startN_ne _).2.1
    by_cases h25 : startN (byS S j) = 25
    · rw [if_neg h24, if_pos h25, if_neg h24, if_pos h25]; rfl
    by_cases h5 : startN (byS S j) = 5 ∨ startN (byS S j) = 6 ∨ startN (byS S j) = 9
    · rw [if_neg h24, if_neg h25, if_pos h5, if_neg h24, if_neg h25, if_pos h5]; rfl
    by_cases h10 : byS S j = 10
    · rw [if_neg h24, if_neg h25, if_neg h5, if_pos h10, if_neg h24, if_neg h25, if_neg h5, if_pos h10] <;> rfl
    · rw [if_neg h24, if_neg h25, if_neg h5, if_neg h10, if_neg h24, if_neg h25, if_neg h5, if_neg h10] <;> rfl
  rw [List.drop_eq_getElem_cons hj]
  rw [byS_at hj] at key
  simp only [feedP, key]
  rcases charP (frs S 3 j) S[j].toNat [S[j]] with ⟨ts, o⟩
  cases o with
  | bad B L C => rfl
  | ok q => rfl
theorem frs_nxt (S : List UInt8) (j c : Nat) : nxt (frs S 3 j).st c = startN c := nxt3 c
theorem frs_told (S : List UInt8) (j c : Nat) : (frs S 3 j).told c = [] := by
  unfold PS.told
  rw [if_neg (show ¬ folN (frs S 3 j).st c = 23 by show ¬ folN 3 c = 23; rw [fol3]; exact (startN_ne c).1)]
theorem frs_cut (S : List UInt8) (j c : Nat) : (frs S 3 j).cut c = frs S 3 j := by
  unfold PS.cut
  rw [if_neg (show ¬ folN (frs S 3 j).st c = 23 by show ¬ folN 3 c = 23; rw [fol3]; exact (startN_ne c).1)]
theorem frs_beg (S : List UInt8) (j : Nat) : (frs S 3 j).beg = mid S 3 j j := by
  unfold PS.beg
  rw [if_pos (show (frs S 3 j).st ≤ 4 by show 3 ≤ 4; decide)]
  simp only [mid, subS_self, frs]
theorem frs_begin {S : List UInt8} {st' j : Nat} (hj : j < S.length) (hf : startN (byS S j) = st') (h4' : 4 < st') (hn : st' ≠ 5 ∧ st' ≠ 6 ∧ st' ≠ 25) (h10 : byS S j ≠ 10) :
    feedP (frs S 3 j) (S.drop j) = feedP (mid S st' j (j + 1)) (S.drop (j + 1)) := by
  have hs := startN_ne (byS S j)
  rw [hf] at hs
  rw [List.drop_eq_getElem_cons hj]
  refine feed_ok ?_
  rw [← byS_at hj]
  unfold charP
  rw [frs_nxt, frs_told, frs_cut, frs_beg, hf, if_neg hs.2.1, if_neg hn.2.2, if_neg (by omega), if_neg h10]
  simp only [PS.nrm, PS.add, mid, nlN_on, ahN_on, if_neg h10, if_neg (show ¬ st' ≤ 4 by omega), subS_succ (Nat.le_refl j) hj, List.length_cons, List.length_nil, Nat.zero_add]
theorem frs_one {S : List UInt8} {st' j : Nat} (hj : j < S.length) (hf : startN (byS S j) = st') (hn : st' = 5 ∨ st' = 6) (h10 : byS S j ≠ 10) :
    feedP (frs S 3 j) (S.drop j) = consT ((mid S st' j (j + 1)).tok (j + 1)) (feedP (frs S 3 (j + 1)) (S.drop (j + 1))) := by
  rw [List.drop_eq_getElem_cons hj]
  refine feed_tok ?_
  rw [← byS_at hj]
  unfold charP
  rw [frs_nxt, frs_told, frs_cut, frs_beg, hf, if_neg (by omega), if_neg (by omega), if_pos (by omega)]
  simp only [PS.nrm, PS.add, mid, frs, PS.tok, nlN_on, ahN_on, if_neg h10, if_pos (show (3 : Nat) ≤ 4 by decide), subS_succ (Nat.le_refl j) hj, List.length_cons, List.length_nil, Nat.zero_add, List.nil_append]
theorem frs_bad {S : List UInt8} {j : Nat} (hj : j < S.length) (hf : startN (byS S j) = 25) : feedP (frs S 3 j) (S.drop j) = ([], badAt S j) := by
  rw [List.drop_eq_getElem_cons hj]
  refine feed_bad ?_
  rw [← byS_at hj]
  unfold charP
  rw [frs_nxt, frs_told, frs_cut, hf, if_neg (by decide), if_pos rfl]
  rfl
theorem frs_gap {S : List UInt8} {st st' j : Nat} (hs : st = 3 ∨ st = 4) (hj : j < S.length) (hf : folN st (byS S j) = st') (h4 : st' ≤ 4) :
    feedP (frs S st j) (S.drop j) = feedP (frs S st' (j + 1)) (S.drop (j + 1)) := by
  have h23 : ¬ folN (frs S st j).st (byS S j) = 23 := by show ¬ folN st _ = 23; rw [hf]; omega
  have e1 : nxt (frs S st j).st (byS S j) = st' := by unfold nxt; rw [if_neg h23]; exact hf
  have e2 : (frs S st j).told (byS S j) = [] := by unfold PS.told; rw [if_neg h23]
  have e3 : (frs S st j).cut (byS S j) = frs S st j := by unfold PS.cut; rw [if_neg h23]
  have e4 : (frs S st j).beg = mid S st j j := by
    unfold PS.beg
    rw [if_pos (show (frs S st j).st ≤ 4 by show st ≤ 4; omega)]
    simp only [mid, subS_self, frs]
  rw [List.drop_eq_getElem_cons hj]
  refine feed_ok ?_
  rw [← byS_at hj]
  unfold charP
  rw [e1, e2, e3, e4, if_neg (by omega), if_neg (by omega), if_neg (by omega)]
  by_cases h10 : byS S j = 10
  · rw [if_pos h10]
    simp only [PS.nrm, PS.add, mid, frs, nlN_on, ahN_on, if_pos h10, if_pos h4, List.length_cons, List.length_nil, Nat.zero_add]
  · rw [if_neg h10]
    simp only [PS.nrm, PS.add, mid, frs, nlN_on, ahN_on, if_neg h10, if_pos h4, List.length_cons, List.length_nil, Nat.zero_add]

/-- a state that stays over the bytes of a sort -/
theorem run_feed {f : Nat → Bool} {st : Nat} (h4 : 4 < st) (hn : st ≠ 5 ∧ st ≠ 6 ∧ st ≠ 9 ∧ st ≠ 23 ∧ st ≠ 24 ∧ st ≠ 25) (hst : ∀ c, f c = true → folN st c = st) (S : List UInt8) (i j : Nat) (hij : i ≤ j) (hj : j ≤ S.length) :
    feedP (mid S st i j) (S.drop j) = feedP (mid S st i (runE f S j)) (S.drop (runE f S j)) := by
  by_cases h : j < S.length ∧ f (byS S j) = true
  · rw [runE_on h.1 h.2, mid_step h4 hij h.1 (hst _ h.2) h4 hn]
    exact run_feed h4 hn hst S i (j + 1) (by omega) (by omega)
  · rw [runE_off h]
termination_by S.length - j
decreasing_by omega
theorem fol4 (c : Nat) : folN 4 c = if c = 10 ∨ c = 13 then 3 else 4 := by simp [folN]
theorem fol34 {st c : Nat} (hs : st = 3 ∨ st = 4) (h : folN st c ≤ 4) : folN st c = 3 ∨ folN st c = 4 := by
  rcases hs with rfl | rfl
  · rw [fol3] at h ⊢
    rcases startN_low h with ⟨_, e⟩ | ⟨_, _, e⟩ <;> omega
  · rw [fol4]; split <;> omega
theorem gapE_spec (S : List UInt8) (st i : Nat) (hs : st = 3 ∨ st = 4) (hi : i ≤ S.length) : i ≤ gapE S st i ∧ gapE S st i ≤ S.length ∧ (gapE S st i < S.length → 4 < startN (byS S (gapE S st i))) ∧
    ∃ st', (st' = 3 ∨ st' = 4) ∧ (gapE S st i < S.length → st' = 3) ∧ feedP (frs S st i) (S.drop i) = feedP (frs S st' (gapE S st i)) (S.drop (gapE S st i)) := by
  by_cases h : i < S.length ∧ folN st (byS S i) ≤ 4
  · obtain ⟨a1, a2, a3, st', b1, b2, b3⟩ := gapE_spec S (folN st (byS S i)) (i + 1) (fol34 hs h.2) (by omega)
    rw [gapE_on h.1 h.2]
    refine ⟨by omega, a2, a3, st', b1, b2, ?_⟩
    rw [frs_gap hs h.1 rfl h.2]
    exact b3
  · rw [gapE_off h]
    have h3 : i < S.length → st = 3 ∧ 4 < startN (byS S i) := fun hl => by
      have h4 : ¬ folN st (byS S i) ≤ 4 := fun c => h ⟨hl, c⟩
      rcases hs with rfl | rfl
      · rw [fol3] at h4; exact ⟨rfl, by omega⟩
      · exfalso; rw [fol4] at h4; split at h4 <;> omega
    exact ⟨Nat.le_refl _, hi, fun hl => (h3 hl).2, st, hs, fun hl => (h3 hl).1, rfl⟩
termination_by S.length - i
decreasing_by omega
end Go.Proofs.YtibeiggedmabkaaDoor
