/-
  What a printed tree is read as: the same tree; and what is read can be printed: without memory.
-/
import Derived.Test.YtpfmamimhhnbiaaGreatDoorSP0
import Derived.Test.YtpfmamimhhnbiaaGreatDoorTQ1
import Derived.Test.YtpfmamimhhnbiaaGreatDoorSX0
namespace Go.Proofs.YtpfmamimhhnbiaaGreatDoor
open Go.RowKit
set_option linter.unusedVariables false
set_option linter.unusedSimpArgs false
/-- a scanner behind one token's text -/
theorem one_state {s : ByteArray} {k : Int} {t : ByteArray} (h : OneT s k t) : ∃ T ts q, feedP pI (lsB s) = (ts, .ok q) ∧ (T.k : Int) = k ∧ T.t = t ∧ q.st ∈ waits ∧ ((ts = [] ∧ kindN q.st ≠ 0 ∧ ¬ (q.st = 8 ∨ q.st = 21) ∧ T = q.tok q.rd) ∨ (ts = [T] ∧ Sim q pI)) := by
  obtain ⟨T, h1, h2, h3, h4, h5, h6⟩ := h
  have hi := Inv_pI
  rcases hf : feedP pI (lsB s) with ⟨ts, o⟩
  have hap : allP (lsB s) = (match (ts, o) with | (ts, .bad _ _ _) => (ts, 120) | (ts, .ok q) => (ts ++ (endP q).1, (endP q).2)) := by unfold allP; rw [hf]; rfl
  cases o with
  | bad B L C =>
    rw [hap] at h2
    exact absurd (show (120 : Int) = 0 from h2) (by decide)
  | ok q =>
    rw [hap] at h1 h2
    simp only at h1 h2
    have hw := (feed_rd (lsB s) hi hf).1
    by_cases h8 : q.st = 8 ∨ q.st = 21
    · unfold endP at h2
      rw [if_pos h8] at h2
      exact absurd h2 (by decide)
    by_cases hk : kindN q.st ≠ 0
    · have he : endP q = ([q.tok q.rd], 0) := by unfold endP; rw [if_neg h8, if_pos hk]
      rw [he] at h1
      have hts : ts = [] := by
        cases ts with
        | nil => rfl
        | cons a l =>
          simp only [List.cons_append] at h1
          injection h1 with _ h1
          exact absurd h1 (by simp)
      subst hts
      simp only [List.nil_append] at h1
      injection h1 with h1 _
      exact ⟨T, [], q, rfl, h3, h4, hw.wt, Or.inl ⟨rfl, hk, h8, h1.symm⟩⟩
    · by_cases h4' : 4 < q.st
      · unfold endP at h2
        rw [if_neg h8, if_neg hk, if_pos h4'] at h2
        exact absurd h2 (by decide)
      · have he : endP q = ([], 0) := by unfold endP; rw [if_neg h8, if_neg hk, if_neg h4']
        rw [he, List.append_nil] at h1
        -- the token ends where the text ends: what is waited for is nothing
        have hst : Sim q pI := by
          obtain ⟨i, k', e, t', q1, q2, hT, hz⟩ := first_tok (S := lsB s) (T := T) (L := []) (by rw [hap]; simp only; rw [he, List.append_nil]; exact h1)
          have e6 : (e : Int) = s.size := by rw [hT] at h6; exact h6
          have e5 : (i : Int) = 0 := by rw [hT] at h5; exact h5
          obtain ⟨s1, self, s2⟩ : ∃ (x : Unit) (self : Bool), lookP (lsB s) 0 = .tok k' t' e self ∧ 4 < startN (byS (lsB s) 0) := by
            have hg := gapE_spec (lsB s) 3 0 (Or.inl rfl) (Nat.zero_le _)
            have eg := allF_gap (S := lsB s) (k := 0) (Nat.zero_le _)
            obtain ⟨z1, _, _⟩ := allF_zero (lsB s)
            have h1' : (allP (lsB s)).1 = [T] := by rw [hap]; simp only; rw [he, List.append_nil]; exact h1
            rw [h1', ← eg] at z1
            by_cases hl : gapE (lsB s) 3 0 < (lsB s).length
            · have hsx := look_step hl (hg.2.2.1 hl)
              rcases hX : lookP (lsB s) (gapE (lsB s) 3 0) with ⟨kk, tt, ee, self⟩ | code | x
              · rw [hX] at hsx
                rw [allF_tok hsx] at z1
                injection z1 with z1 _
                rw [hT] at z1
                injection z1 with y1 y2 y3 y4 y5 y6
                have e0 : gapE (lsB s) 3 0 = 0 := by omega
                rw [e0] at hX hg hl
                have : ee = e := by omega
                subst this
                subst y1
                subst y2
                exact ⟨(), self, hX, hg.2.2.1 hl⟩
              · rw [hX] at hsx
                rw [(allF_half hsx).2] at z1
                cases z1
              · rw [hX] at hsx
                rw [allF_bad hsx] at z1
                cases z1
            · have e0 : gapE (lsB s) 3 0 = (lsB s).length := by omega
              rw [e0, allF_end] at z1
              cases z1
          have hl0 : 0 < (lsB s).length := by rw [lsB_len]; omega
          have hst := look_step hl0 s2.2
          rw [s2.1] at hst
          have ee : e = (lsB s).length := by rw [lsB_len]; omega
          obtain ⟨_, _, _, y3, y4⟩ := hst
          rw [frs_pI, List.drop_zero, hf] at y3 y4
          cases self with
          | true =>
            have y := y3 (Or.inl rfl)
            rw [ee, List.drop_length] at y
            have : (Out.ok q) = .ok (frs (lsB s) 3 (lsB s).length) := (Prod.mk.inj y).2
            injection this with this
            rw [this]
            exact ⟨rfl, rfl⟩
          | false =>
            obtain ⟨st, y5, y6, _⟩ := y4 rfl ee
            have : (Out.ok q) = .ok (mid (lsB s) st 0 e) := (Prod.mk.inj y5).2
            injection this with this
            rw [this] at h4'
            exact absurd y6 h4'
        exact ⟨T, ts, q, rfl, h3, h4, hw.wt, Or.inr ⟨h1, hst⟩⟩
/-- a scanner at a token's end: what it has still to tell -/
structure Rdy (p : PS) (L : List (Nat × ByteArray)) : Prop where
  bl : ∃ ts q, charP p 32 [32] = (ts, .ok q) ∧ KT ts = L ∧ Sim q pI
  cl : ∃ ts q, charP p 41 [41] = (ts, .ok q) ∧ KT ts = L ++ [(2, ⟨#[41]⟩)] ∧ Sim q pI
  en : KT (endP p).1 = L ∧ (endP p).2 = 0
theorem sim_ok {p : PS} (h : Sim p pI) (r : Nat) (us : List UInt8) {ts : List Tok} {q : PS} (hc : charP pI r us = (ts, .ok q)) : ∃ ts2 q2, charP p r us = (ts2, .ok q2) ∧ KT ts2 = KT ts ∧ Sim q2 q := by
  have h1 := h.char r us
  rw [hc] at h1
  rcases hp : charP p r us with ⟨ts2, o2⟩
  rw [hp] at h1
  cases o2 with
  | bad B L C => exact absurd h1.2 (fun c => c)
  | ok q2 => exact ⟨ts2, q2, rfl, h1.1, h1.2⟩
theorem char_bl : charP pI 32 [32] = ([], .ok (PS.nrm (pI.beg.add 3 [32]))) := rfl
theorem char_op : charP pI 40 [40] = ([(pI.beg.add 5 [40]).tok 1], .ok (PS.nrm { pI.beg.add 5 [40] with st := 3 })) := rfl
theorem char_cl : charP pI 41 [41] = ([(pI.beg.add 6 [41]).tok 1], .ok (PS.nrm { pI.beg.add 6 [41] with st := 3 })) := rfl
theorem end_start {p : PS} (h : Sim p pI) : endP p = ([], 0) := by
  unfold endP
  rw [h.1]
  rfl
theorem Sim.tr {p q r : PS} (h : Sim p q) (h2 : Sim q r) : Sim p r := ⟨h.1.trans h2.1, h.2.trans h2.2⟩
theorem rdy_start {p : PS} (h : Sim p pI) : Rdy p [] := by
  obtain ⟨t1, q1, a1, a2, a3⟩ := sim_ok h 32 [32] char_bl
  obtain ⟨t2, q2, b1, b2, b3⟩ := sim_ok h 41 [41] char_cl
  exact ⟨⟨t1, q1, a1, a2, a3.tr ⟨rfl, rfl⟩⟩, ⟨t2, q2, b1, b2, b3.tr ⟨rfl, rfl⟩⟩, by rw [end_start h]; exact ⟨rfl, rfl⟩⟩
theorem fol_close : ∀ st ∈ waits, kindN st ≠ 0 → folN st 41 = 23 := by decide
theorem one_rdy {s : ByteArray} {k : Int} {t : ByteArray} (h : OneT s k t) {p : PS} (hp : Sim p pI) : ∃ ts q L, feedP p (lsB s) = (ts, .ok q) ∧ Rdy q L ∧ KT ts ++ L = [(k.toNat, t)] := by
  obtain ⟨T, ts, q, h1, h2, h3, hw, h4⟩ := one_state h
  have hk : k.toNat = T.k := by omega
  have hs := hp.feed (lsB s)
  rw [h1] at hs
  rcases hq : feedP p (lsB s) with ⟨ts2, o2⟩
  rw [hq] at hs
  cases o2 with
  | bad B L C => exact absurd hs.2 (fun c => c)
  | ok q2 =>
    have hs2 : Sim q2 q := hs.2
    have hs1 : KT ts2 = KT ts := hs.1
    rcases h4 with ⟨e1, e2, e3, e4⟩ | ⟨e1, e2⟩
    · have hkT : ((q2.tok q2.rd).k, (q2.tok q2.rd).t) = (k.toNat, t) := by
        have := hs2.tok q2.rd q.rd
        rw [this.1, this.2, ← e4, h3, hk]
      have w2 : q2.st ∈ waits := by rw [hs2.1]; exact hw
      have k2 : kindN q2.st ≠ 0 := by rw [hs2.1]; exact e2
      have n2 : ¬ (q2.st = 8 ∨ q2.st = 21) := by rw [hs2.1]; exact e3
      refine ⟨ts2, q2, [(k.toNat, t)], rfl, ⟨?_, ?_, ?_⟩, by rw [hs1, e1]; rfl⟩
      · have h23 := fol_blank q2.st w2 k2
        have hn : nxt q2.st 32 = 3 := by unfold nxt; rw [if_pos h23]; decide
        have ht : q2.told 32 = [q2.tok q2.rd] := by unfold PS.told; rw [if_pos h23]
        have hcc : charP q2 32 [32] = ([q2.tok q2.rd], .ok ((q2.cut 32).beg.add 3 [32]).nrm) := by
          unfold charP
          rw [hn, ht, if_neg (by decide), if_neg (by decide), if_neg (by decide), if_neg (by decide)]
        exact ⟨_, _, hcc, by show [((q2.tok q2.rd).k, (q2.tok q2.rd).t)] = _; rw [hkT], ⟨rfl, rfl⟩⟩
      · have h23 := fol_close q2.st w2 k2
        have hn : nxt q2.st 41 = 6 := by unfold nxt; rw [if_pos h23]; decide
        have ht : q2.told 41 = [q2.tok q2.rd] := by unfold PS.told; rw [if_pos h23]
        have hcu : (q2.cut 41).beg.buf = [] := by unfold PS.cut; rw [if_pos h23]; rfl
        have hcc : charP q2 41 [41] = ([q2.tok q2.rd] ++ [((q2.cut 41).beg.add 6 [41]).tok (q2.rd + [41].length)], .ok (PS.nrm { (q2.cut 41).beg.add 6 [41] with st := 3 })) := by
          unfold charP
          rw [hn, ht, if_neg (by decide), if_neg (by decide), if_pos (by decide)]
          rfl
        refine ⟨_, _, hcc, ?_, ⟨rfl, rfl⟩⟩
        rw [KT_app]
        show [((q2.tok q2.rd).k, (q2.tok q2.rd).t)] ++ [(kindN 6, txt 6 ⟨((q2.cut 41).beg.buf ++ [41]).toArray⟩)] = _
        rw [hkT, hcu]
        rfl
      · have he : endP q2 = ([q2.tok q2.rd], 0) := by unfold endP; rw [if_neg n2, if_pos k2]
        rw [he]
        exact ⟨by show [((q2.tok q2.rd).k, (q2.tok q2.rd).t)] = _; rw [hkT], rfl⟩
    · refine ⟨ts2, q2, [], rfl, rdy_start (hs2.tr e2), ?_⟩
      rw [hs1, e1, List.append_nil, hk, ← h3]
      rfl
mutual
/-- a tree's tokens -/
def tkZ : NdZ → List (Nat × ByteArray)
  | .mk t kids => if t.k = 0 then (1, ⟨#[40]⟩) :: (tkL kids ++ [(2, ⟨#[41]⟩)]) else [(t.k.toNat, t.t)]
def tkL : List NdZ → List (Nat × ByteArray)
  | [] => []
  | x :: l => tkZ x ++ tkL l
end
theorem feedZ_cons {p q : PS} {u : UInt8} {us : List UInt8} {ts : List Tok} (h : charP p u.toNat [u] = (ts, .ok q)) : feedP p (u :: us) = (ts ++ (feedP q us).1, (feedP q us).2) := by
  simp only [feedP]
  rw [h]
theorem feedZ_on {p q : PS} {a b : List UInt8} {ts : List Tok} (h : feedP p a = (ts, .ok q)) : feedP p (a ++ b) = (ts ++ (feedP q b).1, (feedP q b).2) := by
  rw [feedP_app, h]
mutual
theorem node_rdy : ∀ (n : NdZ), erZ n = 0 → ∀ p, Sim p pI → ∃ ts q L, feedP p (txZ n) = (ts, .ok q) ∧ Rdy q L ∧ KT ts ++ L = tkZ n
  | .mk t kids, h, p, hp => by
    simp only [erZ, txZ, tkZ] at h ⊢
    by_cases h0 : t.k = 0
    · rw [if_pos h0] at h ⊢
      rw [if_pos h0]
      obtain ⟨t1, q1, a1, a2, a3⟩ := sim_ok hp 40 [40] char_op
      replace a3 := a3.tr (show Sim _ pI from ⟨rfl, rfl⟩)
      obtain ⟨t2, q2, L, b1, b2, b3⟩ := kids_rdy kids h q1 a3
      obtain ⟨t3, q3, c1, c2, c3⟩ := b2.cl
      have e1 : feedP q1 (txL kids ++ [41]) = (t2 ++ t3, .ok q3) := by rw [feedZ_on b1, feedP_one, show (41 : UInt8).toNat = 41 from rfl, c1]
      refine ⟨t1 ++ (t2 ++ t3), q3, [], by rw [feedZ_cons (u := 40) a1, e1], rdy_start c3, ?_⟩
      rw [KT_app, KT_app, a2, c2, List.append_nil, ← b3]
      show (1, (⟨#[40]⟩ : ByteArray)) :: (KT t2 ++ (L ++ [(2, ⟨#[41]⟩)])) = _
      simp only [List.append_assoc]
    · rw [if_neg h0] at h ⊢
      rw [if_neg h0]
      obtain ⟨s, e, h1, _⟩ := atom_one h0 h
      rw [e]
      exact one_rdy h1 hp
theorem kids_rdy : ∀ (l : List NdZ), erL l = 0 → ∀ p, Sim p pI → ∃ ts q L, feedP p (txL l) = (ts, .ok q) ∧ Rdy q L ∧ KT ts ++ L = tkL l
  | [], h, p, hp => ⟨[], p, [], by simp only [txL, feedP], rdy_start hp, by simp [tkL, KT]⟩
  | x :: l, h, p, hp => by
    simp only [erL, txL, tkL] at h ⊢
    by_cases hx : erZ x = 0
    · rw [if_pos hx] at h
      obtain ⟨t1, q1, L1, a1, a2, a3⟩ := node_rdy x hx p hp
      obtain ⟨t2, q2, L2, b1, b2, b3⟩ := more_rdy l h q1 L1 a2
      exact ⟨t1 ++ t2, q2, L2, by rw [feedZ_on a1, b1], b2, by rw [KT_app, List.append_assoc, b3, ← List.append_assoc, a3]⟩
    · rw [if_neg hx] at h; exact absurd h hx
theorem more_rdy : ∀ (l : List NdZ), erL l = 0 → ∀ p L, Rdy p L → ∃ ts q L2, feedP p (txM l) = (ts, .ok q) ∧ Rdy q L2 ∧ KT ts ++ L2 = L ++ tkL l
  | [], h, p, L, hp => ⟨[], p, L, by simp only [txM, feedP], hp, by simp [tkL, KT]⟩
  | x :: l, h, p, L, hp => by
    simp only [erL, txM, tkL] at h ⊢
    by_cases hx : erZ x = 0
    · rw [if_pos hx] at h
      obtain ⟨t0, q0, c1, c2, c3⟩ := hp.bl
      obtain ⟨t1, q1, L1, a1, a2, a3⟩ := node_rdy x hx q0 c3
      obtain ⟨t2, q2, L2, b1, b2, b3⟩ := more_rdy l h q1 L1 a2
      refine ⟨t0 ++ (t1 ++ t2), q2, L2, by rw [feedZ_cons (u := 32) c1, feedZ_on a1, b1], b2, ?_⟩
      rw [KT_app, KT_app, c2, List.append_assoc, List.append_assoc, b3, ← a3, List.append_assoc]
    · rw [if_neg hx] at h; exact absurd h hx
end
end Go.Proofs.YtpfmamimhhnbiaaGreatDoor

namespace Go.Proofs.YtpfmamimhhnbiaaGreatDoor
open Go.RowKit
set_option linter.unusedVariables false
set_option linter.unusedSimpArgs false

theorem qtP_len {S : List UInt8} (j : Nat) (l : List UInt8) {k e : Nat} {t : ByteArray} {self : Bool} (h : qtP S j l = .tok k t e self) : t.size + j + 1 ≤ e + l.length := by
  rw [qtP] at h
  split at h
  · split at h
    · split at h
      · have := qtP_len (j + 2) _ h
        rw [List.length_append] at this
        simp only [List.length_cons, List.length_nil] at this
        omega
      · injection h with g1 g2 g3 g4
        rw [← g2, bts_size]
        omega
    · split at h
      · cases h
      · have := qtP_len (j + 1) _ h
        rw [List.length_append] at this
        simp only [List.length_cons, List.length_nil] at this
        omega
  · cases h
termination_by S.length - j
decreasing_by all_goals omega
theorem subS_le (S : List UInt8) (i j : Nat) : (subS S i j).length ≤ j - i := by
  unfold subS
  rw [List.length_take]
  omega
theorem barP_len {S : List UInt8} (i j : Nat) (hij : i < j) {k e : Nat} {t : ByteArray} {self : Bool} (h : barP S i j = .tok k t e self) : t.size + i + 2 ≤ e := by
  rw [barP] at h
  split at h
  · split at h
    · injection h with g1 g2 g3 g4
      rw [← g2, bts_size]
      have := subS_le S (i + 1) j
      omega
    · split at h
      · cases h
      · exact barP_len i (j + 1) (by omega) h
  · cases h
termination_by S.length - j
decreasing_by all_goals omega
theorem look_len {S : List UInt8} {i k e : Nat} {t : ByteArray} {self : Bool} (hi : i < S.length) (h : lookP S i = .tok k t e self) : t.size ≤ e - i := by
  have hz := lookP_size hi h
  by_cases hk : k = 1 ∨ k = 2 ∨ k = 5 ∨ k = 6
  · rw [hz.2.1 hk]; exact Nat.le_refl _
  by_cases hk2 : k = 7 ∨ k = 8
  · have := hz.2.2 hk2; omega
  unfold lookP at h
  split at h
  · injection h with g1 g2 g3 g4; omega
  split at h
  · injection h with g1 g2 g3 g4; omega
  split at h
  · have := qtP_len _ _ h
    simp only [List.length_nil] at this
    omega
  split at h
  · have := barP_len _ _ (by omega) h
    omega
  split at h
  · unfold keyP at h
    split at h
    · cases h
    split at h
    · cases h
    injection h with g1 g2 g3 g4
    rw [← g2, bts_size, ← g3]
    have := subS_le S (i + 1) (runE syN S (i + 1))
    omega
  split at h
  · exfalso
    unfold shpP at h
    split at h
    · cases h
    split at h
    · have := (shq_alone (by omega) h).1; omega
    split at h
    · have := (shq_alone (by omega) h).1; omega
    · cases h
  split at h
  · rename_i hd
    exfalso
    have := (num_alone hi hd h).1
    omega
  split at h
  · injection h with g1 g2 g3 g4
    rw [← g2, bts_size, ← g3]
    exact subS_le S i (runE syN S i)
  · cases h
theorem all_print (S : List UInt8) (k : Nat) (hk : k ≤ S.length) : (∀ T ∈ (allF S k).1, PrOk T.k T.t ∧ T.t.size ≤ S.length) ∧ wgt (allF S k).1 ≤ 5 * (S.length - k) := by
  obtain ⟨a1, a2, a3, _⟩ := gapE_spec S 3 k (Or.inl rfl) hk
  have eg := allF_gap hk
  rw [← eg]
  by_cases hl : gapE S 3 k < S.length
  · have hs := look_step hl (a3 hl)
    rcases hX : lookP S (gapE S 3 k) with ⟨kk, t, e, self⟩ | code | x
    · have hp := look_print hl (a3 hl) hX
      have hz := look_len hl hX
      rw [hX] at hs
      have h1 := hs.1
      have h2 := hs.2.1
      obtain ⟨i1, i2⟩ := all_print S e h2
      rw [allF_tok hs]
      refine ⟨fun T hT => ?_, ?_⟩
      · rcases List.mem_cons.1 hT with c | c
        · rw [c]
          exact ⟨hp, by show t.size ≤ _; omega⟩
        · exact i1 T c
      · show 2 * t.size + 3 + wgt (allF S e).1 ≤ _
        omega
    · rw [hX] at hs
      rw [(allF_half hs).2]
      exact ⟨fun T hT => absurd hT (by simp), Nat.zero_le _⟩
    · rw [hX] at hs
      rw [allF_bad hs]
      exact ⟨fun T hT => absurd hT (by simp), Nat.zero_le _⟩
  · have e : gapE S 3 k = S.length := by omega
    rw [e, allF_end]
    exact ⟨fun T hT => absurd hT (by simp), Nat.zero_le _⟩
termination_by S.length - k
decreasing_by omega
theorem all_spread (S : List UInt8) : ∃ pr : Tok → ByteArray, (∀ T ∈ (allP S).1, PrR T.k T.t (pr T) 0 ∧ T.t.size ≤ S.length) ∧ wgt (allP S).1 ≤ 5 * S.length ∧ KT (allP (lsB (cat pr (allP S).1))).1 = KT (allP S).1 ∧ (allP (lsB (cat pr (allP S).1))).2 = 0 := by
  obtain ⟨h1, h2⟩ := all_print S 0 (Nat.zero_le _)
  obtain ⟨z1, _, _⟩ := allF_zero S
  rw [z1] at h1 h2
  have hc : ∀ T : Tok, ∃ s, T ∈ (allP S).1 → PrR T.k T.t s 0 := fun T => by
    by_cases hT : T ∈ (allP S).1
    · obtain ⟨s, hs⟩ := (h1 T hT).1
      exact ⟨s, fun _ => hs⟩
    · exact ⟨⟨#[]⟩, fun c => absurd c hT⟩
  refine ⟨fun T => Classical.choose (hc T), fun T hT => ⟨Classical.choose_spec (hc T) hT, (h1 T hT).2⟩, by rw [Nat.sub_zero] at h2; exact h2, ?_⟩
  exact cat_all _ _ (fun T hT => (Classical.choose_spec (hc T) hT).one)
theorem KT_len {a b : List Tok} (h : KT a = KT b) : a.length = b.length := by
  have := congrArg List.length h
  simpa [KT] using this
theorem KT_at {a b : List Tok} (h : KT a = KT b) (k : Nat) (h1 : k < a.length) (h2 : k < b.length) : a[k].k = b[k].k ∧ a[k].t = b[k].t := by
  have e1 : (KT a)[k]? = some (a[k].k, a[k].t) := by simp [KT, List.getElem?_eq_getElem h1]
  have e2 : (KT b)[k]? = some (b[k].k, b[k].t) := by simp [KT, List.getElem?_eq_getElem h2]
  rw [h, e2] at e1
  injection e1 with e1
  injection e1 with e3 e4
  exact ⟨e3.symm, e4.symm⟩
theorem cat_on (pr : Tok → ByteArray) (L : List Tok) (k : Nat) (h : k < L.length) : cat pr (L.take (k + 1)) = cat pr (L.take k) ++ pr L[k] ++ ⟨#[32]⟩ := by
  have e : L.take (k + 1) = L.take k ++ [L[k]] := by
    rw [List.take_add_one, List.getElem?_eq_getElem h]
    rfl
  rw [e, cat_app]
  show cat pr (L.take k) ++ (pr L[k] ++ ⟨#[32]⟩ ++ ⟨#[]⟩) = _
  apply ByteArray.ext
  simp only [ByteArray.data_append]
  simp
theorem wgt_take (L : List Tok) (k : Nat) : wgt (L.take k) ≤ wgt L := by
  have h := wgt_app (L.take k) (L.drop k)
  rw [List.take_append_drop] at h
  omega
end Go.Proofs.YtpfmamimhhnbiaaGreatDoor

namespace Go.Proofs.YtpfmamimhhnbiaaGreatDoor
open Go.RowKit
set_option linter.unusedVariables false
set_option linter.unusedSimpArgs false
def toT (T : Tok) : TokZ := ⟨T.k, T.t, T.b, T.e, T.l, T.c⟩
mutual
def toZ : Nd → NdZ
  | .mk t kids => .mk (toT t) (toZL kids)
def toZL : List Nd → List NdZ
  | [] => []
  | x :: l => toZ x :: toZL l
end
theorem toZL_len : ∀ l : List Nd, (toZL l).length = l.length
  | [] => rfl
  | x :: l => by simp only [toZL, List.length_cons, toZL_len l]
theorem toZL_at : ∀ (l : List Nd) (i : Nat) (h : i < l.length) (h2 : i < (toZL l).length), (toZL l)[i] = toZ l[i]
  | x :: l, 0, _, _ => rfl
  | x :: l, i + 1, h, h2 => by simp only [toZL, List.getElem_cons_succ]; exact toZL_at l i (by simpa using h) (by simpa [toZL] using h2)
  | [], _, h, _ => by simp at h
theorem toZL_app : ∀ a b : List Nd, toZL (a ++ b) = toZL a ++ toZL b
  | [], b => rfl
  | x :: a, b => by simp only [List.cons_append, toZL, toZL_app a b]
theorem toZL_mem : ∀ {l : List Nd} {x : NdZ}, x ∈ toZL l → ∃ m ∈ l, x = toZ m
  | m :: l, x, h => by
    simp only [toZL, List.mem_cons] at h
    rcases h with e | e
    · exact ⟨m, List.mem_cons_self, e⟩
    · obtain ⟨m2, h1, h2⟩ := toZL_mem e
      exact ⟨m2, List.mem_cons_of_mem _ h1, h2⟩
theorem toZ_t (m : Nd) : (toZ m).t = toT m.t := by cases m; rfl
theorem toZ_kids (m : Nd) : (toZ m).kids = toZL m.kids := by cases m; rfl
mutual
/-- what a tree is read as -/
def RdZ : NdZ → Nd → Prop
  | .mk t kids, .mk T ks => (T.k : Int) = t.k ∧ (if t.k = 0 then T.t = ⟨#[]⟩ ∧ RdL kids ks else T.t = t.t ∧ ks = [])
def RdL : List NdZ → List Nd → Prop
  | [], [] => True
  | x :: a, y :: b => RdZ x y ∧ RdL a b
  | [], _ :: _ => False
  | _ :: _, [] => False
end
mutual
theorem rd_same : ∀ (n : NdZ) (m : Nd), RdZ n m → sameZ (toZ m) n = true ∧ wgZ (toZ m) ≤ wgZ n
  | .mk t kids, .mk T ks, h => by
    simp only [RdZ] at h
    simp only [toZ, sameZ, wgZ]
    rw [if_pos (show (toT T).k = t.k from h.1)]
    by_cases h0 : t.k = 0
    · rw [if_pos h0] at h
      rw [if_pos (show (toT T).k = 0 from h.1.trans h0)]
      have ih := rd_sameL kids ks h.2.2
      refine ⟨ih.1, ?_⟩
      show T.t.size + 1 + _ ≤ _
      rw [h.2.1]
      have : (⟨#[]⟩ : ByteArray).size = 0 := rfl
      omega
    · rw [if_neg h0] at h
      rw [if_neg (show ¬ (toT T).k = 0 from fun c => h0 (h.1.symm.trans c))]
      rw [h.2.2]
      refine ⟨?_, ?_⟩
      · show (T.t.toList == t.t.toList) = true
        rw [h.2.1]
        exact beq_self_eq_true _
      · show T.t.size + 1 + wgL (toZL []) ≤ _
        rw [h.2.1]
        simp only [toZL, wgL]
        omega
theorem rd_sameL : ∀ (l : List NdZ) (ms : List Nd), RdL l ms → sameL (toZL ms) l = true ∧ wgL (toZL ms) ≤ wgL l
  | [], [], _ => ⟨by simp [toZL, sameL], Nat.le_refl _⟩
  | x :: a, y :: b, h => by
    simp only [RdL] at h
    have h1 := rd_same x y h.1
    have h2 := rd_sameL a b h.2
    simp only [toZL, sameL, wgL, Bool.and_eq_true]
    exact ⟨⟨h1.1, h2.1⟩, by omega⟩
  | [], _ :: _, h => by simp [RdL] at h
  | _ :: _, [], h => by simp [RdL] at h
end
theorem RdL_len : ∀ {l : List NdZ} {ms : List Nd}, RdL l ms → ms.length = l.length
  | [], [], _ => rfl
  | x :: a, y :: b, h => by simp only [RdL] at h; simp only [List.length_cons, RdL_len h.2]
  | [], _ :: _, h => by simp [RdL] at h
  | _ :: _, [], h => by simp [RdL] at h
theorem RdL_at : ∀ {l : List NdZ} {ms : List Nd}, RdL l ms → ∀ i (h : i < l.length) (h2 : i < ms.length), RdZ l[i] ms[i]
  | x :: a, y :: b, h, 0, _, _ => by simp only [RdL] at h; exact h.1
  | x :: a, y :: b, h, i + 1, h1, h2 => by simp only [RdL] at h; exact RdL_at h.2 i (by simpa using h1) (by simpa using h2)
  | [], [], _, _, h, _ => by simp at h
  | [], _ :: _, h, _, _, _ => by simp [RdL] at h
  | _ :: _, [], h, _, _, _ => by simp [RdL] at h
theorem KT_split {ts : List Tok} {a b : List (Nat × ByteArray)} (h : KT ts = a ++ b) : ∃ t1 t2, ts = t1 ++ t2 ∧ KT t1 = a ∧ KT t2 = b := by
  obtain ⟨l1, l2, h1, h2, h3⟩ := List.map_eq_append_iff.1 h
  exact ⟨l1, l2, h1, h2, h3⟩
theorem KT_cons {ts : List Tok} {k : Nat} {t : ByteArray} {b : List (Nat × ByteArray)} (h : KT ts = (k, t) :: b) : ∃ T t2, ts = T :: t2 ∧ T.k = k ∧ T.t = t ∧ KT t2 = b := by
  obtain ⟨T, l2, h1, h2, h3⟩ := List.map_eq_cons_iff.1 h
  injection h2 with h4 h5
  exact ⟨T, l2, h1, h4, h5, h3⟩
theorem KT_nil {ts : List Tok} (h : KT ts = []) : ts = [] := List.map_eq_nil_iff.1 h
mutual
theorem build_node : ∀ (n : NdZ), erZ n = 0 → ∀ (s : BS) (ts : List Tok), KT ts = tkZ n → s.opn.length ≤ 1000 → dok (1000 - s.opn.length) n = true → ∃ m, buildB s ts = .ok (s.push m) ∧ RdZ n m
  | .mk t kids, h, s, ts, hk, hl, hd => by
    simp only [erZ, tkZ, dok] at h hk hd
    by_cases h0 : t.k = 0
    · rw [if_pos h0] at h hk hd
      by_cases hm : 1000 - s.opn.length = 0
      · rw [if_pos hm] at hd; cases hd
      rw [if_neg hm] at hd
      obtain ⟨T1, t2, rfl, k1, _, hk2⟩ := KT_cons hk
      obtain ⟨us, t3, rfl, hu, h3⟩ := KT_split hk2
      obtain ⟨T2, t4, rfl, k2, _, h4⟩ := KT_cons h3
      rw [KT_nil h4]
      obtain ⟨ms, b1, b2⟩ := build_kids kids h s.nodes ⟨T1.b, T1.l, T1.c, []⟩ s.opn us hu (by omega) (by rw [show 1000 - (s.opn.length + 1) = 1000 - s.opn.length - 1 by omega]; exact hd)
      refine ⟨Opn.node ⟨T1.b, T1.l, T1.c, ms⟩ T2.e, ?_, ?_⟩
      · simp only [buildB]
        have e1 : stepB s T1 = .ok { s with opn := ⟨T1.b, T1.l, T1.c, []⟩ :: s.opn } := by unfold stepB; rw [if_pos k1, if_neg (by omega)]
        rw [e1]
        simp only
        rw [buildB_app, b1]
        simp only [buildB]
        have e2 : ∀ q : BS, q = ⟨s.nodes, ⟨T1.b, T1.l, T1.c, [] ++ ms⟩ :: s.opn⟩ → stepB q T2 = .ok (s.push (Opn.node ⟨T1.b, T1.l, T1.c, ms⟩ T2.e)) := fun q e => by subst e; unfold stepB; rw [if_neg (by omega), if_pos k2]; rfl
        rw [e2 _ rfl]
      · show RdZ (.mk t kids) (.mk ⟨0, ⟨#[]⟩, T1.b, T2.e, T1.l, T1.c⟩ ms)
        simp only [RdZ]
        rw [if_pos h0]
        exact ⟨h0.symm, by trivial, b2⟩
    · rw [if_neg h0] at h hk hd
      obtain ⟨s1, _, _, n1, n2, g1, _⟩ := atom_one h0 h
      obtain ⟨T1, t2, rfl, k1, e1, hk2⟩ := KT_cons hk
      rw [KT_nil hk2]
      have hk3 : (T1.k : Int) = t.k := by omega
      refine ⟨.mk T1 [], ?_, ?_⟩
      · simp only [buildB]
        have e1 : stepB s T1 = .ok (s.push (.mk T1 [])) := by unfold stepB; rw [if_neg (by omega), if_neg (by omega)]
        rw [e1]
      · simp only [RdZ]
        rw [if_neg h0]
        exact ⟨hk3, e1, by simp⟩
theorem build_kids : ∀ (l : List NdZ), erL l = 0 → ∀ (N : List Nd) (o : Opn) (r : List Opn) (ts : List Tok), KT ts = tkL l → r.length + 1 ≤ 1000 → dokL (1000 - (r.length + 1)) l = true → ∃ ms, buildB ⟨N, o :: r⟩ ts = .ok ⟨N, { o with kids := o.kids ++ ms } :: r⟩ ∧ RdL l ms
  | [], h, N, o, r, ts, hk, hl, hd => by
    simp only [tkL] at hk
    rw [KT_nil hk]
    exact ⟨[], by simp [buildB], by simp [RdL]⟩
  | x :: l, h, N, o, r, ts, hk, hl, hd => by
    simp only [erL, tkL, dokL, Bool.and_eq_true] at h hk hd
    by_cases hx : erZ x = 0
    · rw [if_pos hx] at h
      obtain ⟨t1, t2, rfl, h1, h2⟩ := KT_split hk
      obtain ⟨m, a1, a2⟩ := build_node x hx ⟨N, o :: r⟩ t1 h1 hl hd.1
      obtain ⟨ms, b1, b2⟩ := build_kids l h N { o with kids := o.kids ++ [m] } r t2 h2 hl hd.2
      refine ⟨m :: ms, ?_, by simp only [RdL]; exact ⟨a2, b2⟩⟩
      rw [buildB_app, a1]
      show buildB ⟨N, { o with kids := o.kids ++ [m] } :: r⟩ t2 = _
      rw [b1]
      simp
    · rw [if_neg hx] at h; exact absurd h hx
end
theorem build_top : ∀ (l : List NdZ), (∀ x ∈ l, erZ x = 0 ∧ dok 1000 x = true) → ∀ (N : List Nd) (ts : List Tok), KT ts = tkL l → ∃ ms, buildB ⟨N, []⟩ ts = .ok ⟨N ++ ms, []⟩ ∧ RdL l ms
  | [], h, N, ts, hk => by
    simp only [tkL] at hk
    rw [KT_nil hk]
    exact ⟨[], by simp [buildB], by simp [RdL]⟩
  | x :: l, h, N, ts, hk => by
    simp only [tkL] at hk
    obtain ⟨t1, t2, rfl, h1, h2⟩ := KT_split hk
    have hx := h x List.mem_cons_self
    obtain ⟨m, a1, a2⟩ := build_node x hx.1 ⟨N, []⟩ t1 h1 (Nat.zero_le _) hx.2
    obtain ⟨ms, b1, b2⟩ := build_top l (fun y hy => h y (List.mem_cons_of_mem _ hy)) (N ++ [m]) t2 h2
    refine ⟨m :: ms, ?_, by simp only [RdL]; exact ⟨a2, b2⟩⟩
    rw [buildB_app, a1]
    show buildB ⟨N ++ [m], []⟩ t2 = _
    rw [b1]
    simp
/-- what was fed and built, and what the end tells -/
theorem readF_of {S : List UInt8} {ts : List Tok} {q : PS} {ms : List Nd} (h : feedP pI S = (ts, .ok q)) (hb : buildB b0 (ts ++ (endP q).1) = .ok ⟨ms, []⟩) (he : (endP q).2 = 0) : readF S = (ms, 0, 0) := by
  unfold readF
  rw [h]
  simp only
  rw [buildB_app] at hb
  rcases h1 : buildB b0 ts with s | ⟨s, c, p⟩
  · rw [h1] at hb
    simp only at hb ⊢
    rw [hb]
    simp [he]
  · rw [h1] at hb
    cases hb
/-- what Print says of a tree is read as that tree -/
theorem read_print (n : NdZ) (h : erZ n = 0) (hd : dok 1000 n = true) : ∃ m, readF (txZ n) = ([m], 0, 0) ∧ RdZ n m := by
  obtain ⟨ts, q, L, h1, h2, h3⟩ := node_rdy n h pI ⟨rfl, rfl⟩
  have hk : KT (ts ++ (endP q).1) = tkZ n := by rw [KT_app, h2.en.1, h3]
  obtain ⟨m, b1, b2⟩ := build_node n h b0 _ hk (Nat.zero_le _) hd
  exact ⟨m, readF_of h1 b1 h2.en.2, b2⟩
/-- trees, a blank behind each -/
noncomputable def txS : List NdZ → List UInt8
  | [] => []
  | x :: l => txZ x ++ 32 :: txS l
theorem txS_app (a b : List NdZ) : txS (a ++ b) = txS a ++ txS b := by
  induction a with
  | nil => rfl
  | cons x a ih => simp only [List.cons_append, txS, ih, List.append_assoc]
theorem txS_take {l : List NdZ} {k : Nat} (h : k < l.length) : txS (l.take (k + 1)) = txS (l.take k) ++ (txZ l[k] ++ [32]) := by
  rw [List.take_add_one, List.getElem?_eq_getElem h, txS_app]
  simp [txS]
theorem txS_len : ∀ l : List NdZ, (txS l).length ≤ 4 * wgL l
  | [] => by simp [txS]
  | x :: l => by simp only [txS, wgL, List.length_append, List.length_cons]; have := tx_wg x; have := txS_len l; omega
theorem seq_rdy : ∀ (l : List NdZ), (∀ x ∈ l, erZ x = 0) → ∀ p, Sim p pI → ∃ ts q, feedP p (txS l) = (ts, .ok q) ∧ Sim q pI ∧ KT ts = tkL l
  | [], h, p, hp => ⟨[], p, by simp only [txS, feedP], hp, by simp [tkL, KT]⟩
  | x :: l, h, p, hp => by
    simp only [txS, tkL]
    obtain ⟨t1, q1, L, a1, a2, a3⟩ := node_rdy x (h x List.mem_cons_self) p hp
    obtain ⟨t2, q2, b1, b2, b3⟩ := a2.bl
    obtain ⟨t3, q3, c1, c2, c3⟩ := seq_rdy l (fun y hy => h y (List.mem_cons_of_mem _ hy)) q2 b3
    refine ⟨t1 ++ (t2 ++ t3), q3, ?_, c2, ?_⟩
    · rw [feedZ_on a1, feedZ_cons (u := 32) b1, c1]
    · rw [KT_app, KT_app, b2, c3, ← List.append_assoc, a3]
theorem read_seq (l : List NdZ) (h : ∀ x ∈ l, erZ x = 0 ∧ dok 1000 x = true) : ∃ ms, readF (txS l) = (ms, 0, 0) ∧ RdL l ms := by
  obtain ⟨ts, q, h1, h2, h3⟩ := seq_rdy l (fun x hx => (h x hx).1) pI ⟨rfl, rfl⟩
  have he := end_start h2
  obtain ⟨ms, b1, b2⟩ := build_top l h [] ts h3
  refine ⟨ms, readF_of h1 ?_ (by rw [he]), b2⟩
  rw [he, List.append_nil]
  rw [List.nil_append] at b1
  exact b1
/-- what can be printed, no deeper than that -/
def GdN (d : Nat) (m : Nd) : Prop := erZ (toZ m) = 0 ∧ dok d (toZ m) = true
def GdO : List Opn → Prop
  | [] => True
  | o :: r => (∀ m ∈ o.kids, GdN (1000 - (r.length + 1)) m) ∧ GdO r
structure GdB (s : BS) : Prop where
  few : s.opn.length ≤ 1000
  nodes : ∀ m ∈ s.nodes, GdN 1000 m
  opn : GdO s.opn
def wgO : List Opn → Nat
  | [] => 0
  | o :: r => wgL (toZL o.kids) + 1 + wgO r
def wgB (s : BS) : Nat := wgL (toZL s.nodes) + wgO s.opn
theorem GdB.push {s : BS} {m : Nd} (h : GdB s) (hm : GdN (1000 - s.opn.length) m) : GdB (s.push m) ∧ wgB (s.push m) = wgB s + wgZ (toZ m) := by
  obtain ⟨N, O⟩ := s
  cases O with
  | nil =>
    refine ⟨⟨h.few, fun x hx => ?_, h.opn⟩, ?_⟩
    · have hx' : x ∈ N ++ [m] := hx
      rcases List.mem_append.1 hx' with c | c
      · exact h.nodes x c
      · rw [List.mem_singleton.1 c]; exact hm
    · show wgL (toZL (N ++ [m])) + wgO [] = wgL (toZL N) + wgO [] + wgZ (toZ m)
      rw [toZL_app, wgL_app]
      simp only [toZL, wgL]
      omega
  | cons o r =>
    have ho := h.opn
    simp only [GdO] at ho
    refine ⟨⟨h.few, h.nodes, ?_⟩, ?_⟩
    · show GdO ({ o with kids := o.kids ++ [m] } :: r)
      simp only [GdO]
      refine ⟨fun x hx => ?_, ho.2⟩
      rcases List.mem_append.1 hx with c | c
      · exact ho.1 x c
      · rw [List.mem_singleton.1 c]; exact hm
    · show wgL (toZL N) + wgO ({ o with kids := o.kids ++ [m] } :: r) = wgL (toZL N) + wgO (o :: r) + wgZ (toZ m)
      simp only [wgO]
      rw [toZL_app, wgL_app]
      simp only [toZL, wgL]
      omega
theorem wtC_of {T : TokZ} (h : PrOk T.k T.t) (h1 : T.k ≠ 1) (h2 : T.k ≠ 2) : wtC T = 0 := by
  obtain ⟨s, hs⟩ := h
  unfold wtC
  rw [if_neg (fun c => c.elim h1 h2), pkT_uniq hs]
theorem GdB.step {s s2 : BS} {T : Tok} (h : GdB s) (hp : PrOk T.k T.t) (hs : stepB s T = .ok s2) : GdB s2 ∧ wgB s2 ≤ wgB s + (T.t.size + 1) := by
  unfold stepB at hs
  by_cases h1 : T.k = 1
  · rw [if_pos h1] at hs
    by_cases h2 : s.opn.length = 1000
    · rw [if_pos h2] at hs; cases hs
    · rw [if_neg h2] at hs
      injection hs with hs
      subst hs
      refine ⟨⟨?_, h.nodes, ?_⟩, ?_⟩
      · have := h.few
        show s.opn.length + 1 ≤ 1000
        omega
      · show GdO (⟨T.b, T.l, T.c, []⟩ :: s.opn)
        simp only [GdO]
        exact ⟨fun m hm => absurd hm (by simp), h.opn⟩
      · show wgL (toZL s.nodes) + wgO (⟨T.b, T.l, T.c, []⟩ :: s.opn) ≤ wgL (toZL s.nodes) + wgO s.opn + (T.t.size + 1)
        simp only [wgO, toZL, wgL]
        omega
  · rw [if_neg h1] at hs
    by_cases h2 : T.k = 2
    · rw [if_pos h2] at hs
      obtain ⟨N, O⟩ := s
      cases O with
      | nil => cases hs
      | cons o r =>
        injection hs with hs
        subst hs
        have ho := h.opn
        simp only [GdO] at ho
        have hf : r.length + 1 ≤ 1000 := h.few
        have hm : GdN (1000 - r.length) (o.node T.e) := by
          unfold Opn.node GdN
          simp only [toZ, erZ, dok]
          rw [if_pos (show (toT ⟨0, ⟨#[]⟩, o.b, T.e, o.l, o.c⟩).k = 0 from rfl), if_pos (show (toT ⟨0, ⟨#[]⟩, o.b, T.e, o.l, o.c⟩).k = 0 from rfl), if_neg (by omega)]
          refine ⟨?_, ?_⟩
          · apply erL_all
            intro i hi
            have hi2 : i < o.kids.length := by rw [← toZL_len]; exact hi
            rw [toZL_at _ i hi2 hi]
            exact (ho.1 _ (List.getElem_mem hi2)).1
          · rw [dokL_mem]
            intro x hx
            obtain ⟨m, hm, rfl⟩ := toZL_mem hx
            have := (ho.1 m hm).2
            rw [show 1000 - (r.length + 1) = 1000 - r.length - 1 by omega] at this
            exact this
        obtain ⟨g1, g2⟩ := GdB.push (s := ⟨N, r⟩) ⟨by show r.length ≤ 1000; omega, h.nodes, ho.2⟩ hm
        refine ⟨g1, ?_⟩
        show wgB ((⟨N, r⟩ : BS).push (o.node T.e)) ≤ _
        rw [g2]
        have e : wgZ (toZ (o.node T.e)) = 0 + 1 + wgL (toZL o.kids) := by unfold Opn.node; simp only [toZ, wgZ]; rfl
        rw [e]
        show wgL (toZL N) + wgO r + (0 + 1 + wgL (toZL o.kids)) ≤ wgL (toZL N) + (wgL (toZL o.kids) + 1 + wgO r) + (T.t.size + 1)
        omega
    · rw [if_neg h2] at hs
      injection hs with hs
      subst hs
      have hone : 1 ≤ (T.k : Int) := by
        obtain ⟨s, hs⟩ := hp
        exact (ok_kind hs.one.ok).1
      have hm : GdN (1000 - s.opn.length) (.mk T []) := by
        unfold GdN
        simp only [toZ, erZ, dok]
        have h0 : ¬ (toT T).k = 0 := by show ¬ (T.k : Int) = 0; omega
        rw [if_neg h0, if_neg h0]
        exact ⟨wtC_of hp (by show (T.k : Int) ≠ 1; omega) (by show (T.k : Int) ≠ 2; omega), rfl⟩
      obtain ⟨g1, g2⟩ := h.push hm
      refine ⟨g1, ?_⟩
      rw [g2]
      have e : wgZ (toZ (.mk T [])) = T.t.size + 1 + 0 := by simp only [toZ, wgZ, toZL, wgL]; rfl
      rw [e]
      omega
def tkW : List Tok → Nat
  | [] => 0
  | T :: l => T.t.size + 1 + tkW l
theorem tkW_le : ∀ l : List Tok, tkW l ≤ wgt l
  | [] => Nat.le_refl _
  | T :: l => by simp only [tkW, wgt]; have := tkW_le l; omega
theorem GdB.build : ∀ (ts : List Tok) (s : BS), GdB s → (∀ T ∈ ts, PrOk T.k T.t) → (∀ s2, buildB s ts = .ok s2 → GdB s2 ∧ wgB s2 ≤ wgB s + tkW ts) ∧ (∀ s2 c p, buildB s ts = .bad s2 c p → GdB s2 ∧ wgB s2 ≤ wgB s + tkW ts)
  | [], s, h, _ => ⟨fun s2 e => by simp only [buildB] at e; injection e with e; subst e; exact ⟨h, Nat.le_refl _⟩, fun s2 c p e => by simp only [buildB] at e; cases e⟩
  | T :: l, s, h, hp => by
    simp only [buildB, tkW]
    rcases hs : stepB s T with s1 | ⟨s1, c1, p1⟩
    · obtain ⟨g1, g2⟩ := h.step (hp T List.mem_cons_self) hs
      have ih := GdB.build l s1 g1 (fun X hX => hp X (List.mem_cons_of_mem _ hX))
      simp only
      exact ⟨fun s2 e => ⟨(ih.1 s2 e).1, by have := (ih.1 s2 e).2; omega⟩, fun s2 c p e => ⟨(ih.2 s2 c p e).1, by have := (ih.2 s2 c p e).2; omega⟩⟩
    · have e1 := ((stepB_keeps h.few).2 _ _ _ hs).1
      simp only
      refine ⟨fun s2 e => (by cases e), fun s2 c p e => ?_⟩
      injection e with e _ _
      subst e
      rw [e1]
      exact ⟨h, by omega⟩
/-- what is read can be printed -/
theorem read_good (S : List UInt8) : (∀ m ∈ (readF S).1, GdN 1000 m) ∧ wgL (toZL (readF S).1) ≤ 5 * S.length := by
  rw [← readR_F]
  obtain ⟨h1, h2⟩ := all_print S 0 (Nat.zero_le _)
  have hb := GdB.build (allF S 0).1 b0 ⟨Nat.zero_le _, fun m hm => absurd hm (by simp [b0]), trivial⟩ (fun T hT => (h1 T hT).1)
  have hw := tkW_le (allF S 0).1
  have fin : ∀ s : BS, GdB s ∧ wgB s ≤ wgB b0 + tkW (allF S 0).1 → (∀ m ∈ s.nodes, GdN 1000 m) ∧ wgL (toZL s.nodes) ≤ 5 * S.length := fun s hs => by
    refine ⟨hs.1.nodes, ?_⟩
    have h3 := hs.2
    have h4 : wgB b0 = 0 := rfl
    unfold wgB at h3
    rw [show wgL (toZL b0.nodes) + wgO b0.opn = 0 from rfl] at h3
    omega
  unfold readR finR
  rcases hx : buildB b0 (allF S 0).1 with s | ⟨s, c, p⟩
  · have := fin s (hb.1 s hx)
    simp only
    split
    · exact this
    · split <;> exact this
  · exact fin s (hb.2 s c p hx)
end Go.Proofs.YtpfmamimhhnbiaaGreatDoor
