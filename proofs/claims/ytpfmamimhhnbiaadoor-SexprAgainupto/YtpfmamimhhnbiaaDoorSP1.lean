/-
  What a printed tree is read as: its tokens.
-/
import Derived.Test.YtpfmamimhhnbiaaDoorSP0
namespace Go.Proofs.YtpfmamimhhnbiaaDoor
open Go.RowKit
set_option linter.unusedVariables false
set_option linter.unusedSimpArgs false
/-- a scanner behind one token's text -/
theorem one_state {s : ByteArray} {k : Int} {t : ByteArray} (h : OneT s k t) : ∃ T ts q, feedP pI (lsB s) = (ts, .ok q) ∧ (T.k : Int) = k ∧ T.t = t ∧ q.st ∈ waits ∧ ((ts = [] ∧ kindN q.st ≠ 0 ∧ ¬ (q.st = 8 ∨ q.st = 21) ∧ T = q.tok q.rd) ∨ (ts = [T] ∧ Sim q pI)) := by
  obtain ⟨T, h1, h2, h3, h4, h5, h6⟩ := h
  have hi := Inv_pI
  rcases hf : feedP pI (lsB s) with ⟨ts, o⟩
  have hap : allP (lsB s) = (match (ts, o) with | (ts, .bad _ _ _) => (ts, 120) | (ts, .ok q) => (ts ++ (endP q).1, (endP q).2)) := by unfold allP; rw [hf]; rfl
  cases o with
  | bad B L C =>
    rw [hap] at h2
    exact absurd (show (120 : Int) = 0 from h2) (by decide)
  | ok q =>
    rw [hap] at h1 h2
    simp only at h1 h2
    have hw := (feed_rd (lsB s) hi hf).1
    by_cases h8 : q.st = 8 ∨ q.st = 21
    · unfold endP at h2
      rw [if_pos h8] at h2
      exact absurd h2 (by decide)
    by_cases hk : kindN q.st ≠ 0
    · have he : endP q = ([q.tok q.rd], 0) := by unfold endP; rw [if_neg h8, if_pos hk]
      rw [he] at h1
      have hts : ts = [] := by
        cases ts with
        | nil => rfl
        | cons a l =>
          simp only [List.cons_append] at h1
          injection h1 with _ h1
          exact absurd h1 (by simp)
      subst hts
      simp only [List.nil_append] at h1
      injection h1 with h1 _
      exact ⟨T, [], q, rfl, h3, h4, hw.wt, Or.inl ⟨rfl, hk, h8, h1.symm⟩⟩
    · by_cases h4' : 4 < q.st
      · unfold endP at h2
        rw [if_neg h8, if_neg hk, if_pos h4'] at h2
        exact absurd h2 (by decide)
      · have he : endP q = ([], 0) := by unfold endP; rw [if_neg h8, if_neg hk, if_neg h4']
        rw [he, List.append_nil] at h1
        -- the token ends where the text ends: what is waited for is nothing
        have hst : Sim q pI := by
          obtain ⟨i, k', e, t', q1, q2, hT, hz⟩ := first_tok (S := lsB s) (T := T) (L := []) (by rw [hap]; simp only; rw [he, List.append_nil]; exact h1)
          have e6 : (e : Int) = s.size := by rw [hT] at h6; exact h6
          have e5 : (i : Int) = 0 := by rw [hT] at h5; exact h5
          obtain ⟨s1, self, s2⟩ : ∃ (x : Unit) (self : Bool), lookP (lsB s) 0 = .tok k' t' e self ∧ 4 < startN (byS (lsB s) 0) := by
            have hg := gapE_spec (lsB s) 3 0 (Or.inl rfl) (Nat.zero_le _)
            have eg := allF_gap (S := lsB s) (k := 0) (Nat.zero_le _)
            obtain ⟨z1, _, _⟩ := allF_zero (lsB s)
            have h1' : (allP (lsB s)).1 = [T] := by rw [hap]; simp only; rw [he, List.append_nil]; exact h1
            rw [h1', ← eg] at z1
            by_cases hl : gapE (lsB s) 3 0 < (lsB s).length
            · have hsx := look_step hl (hg.2.2.1 hl)
              rcases hX : lookP (lsB s) (gapE (lsB s) 3 0) with ⟨kk, tt, ee, self⟩ | code | x
              · rw [hX] at hsx
                rw [allF_tok hsx] at z1
                injection z1 with z1 _
                rw [hT] at z1
                injection z1 with y1 y2 y3 y4 y5 y6
                have e0 : gapE (lsB s) 3 0 = 0 := by omega
                rw [e0] at hX hg hl
                have : ee = e := by omega
                subst this
                subst y1
                subst y2
                exact ⟨(), self, hX, hg.2.2.1 hl⟩
              · rw [hX] at hsx
                rw [(allF_half hsx).2] at z1
                cases z1
              · rw [hX] at hsx
                rw [allF_bad hsx] at z1
                cases z1
            · have e0 : gapE (lsB s) 3 0 = (lsB s).length := by omega
              rw [e0, allF_end] at z1
              cases z1
          have hl0 : 0 < (lsB s).length := by rw [lsB_len]; omega
          have hst := look_step hl0 s2.2
          rw [s2.1] at hst
          have ee : e = (lsB s).length := by rw [lsB_len]; omega
          obtain ⟨_, _, _, y3, y4⟩ := hst
          rw [frs_pI, List.drop_zero, hf] at y3 y4
          cases self with
          | true =>
            have y := y3 (Or.inl rfl)
            rw [ee, List.drop_length] at y
            have : (Out.ok q) = .ok (frs (lsB s) 3 (lsB s).length) := (Prod.mk.inj y).2
            injection this with this
            rw [this]
            exact ⟨rfl, rfl⟩
          | false =>
            obtain ⟨st, y5, y6, _⟩ := y4 rfl ee
            have : (Out.ok q) = .ok (mid (lsB s) st 0 e) := (Prod.mk.inj y5).2
            injection this with this
            rw [this] at h4'
            exact absurd y6 h4'
        exact ⟨T, ts, q, rfl, h3, h4, hw.wt, Or.inr ⟨h1, hst⟩⟩
/-- a scanner at a token's end: what it has still to tell -/
structure Rdy (p : PS) (L : List (Nat × ByteArray)) : Prop where
  bl : ∃ ts q, charP p 32 [32] = (ts, .ok q) ∧ KT ts = L ∧ Sim q pI
  cl : ∃ ts q, charP p 41 [41] = (ts, .ok q) ∧ KT ts = L ++ [(2, ⟨#[41]⟩)] ∧ Sim q pI
  en : KT (endP p).1 = L ∧ (endP p).2 = 0
theorem sim_ok {p : PS} (h : Sim p pI) (r : Nat) (us : List UInt8) {ts : List Tok} {q : PS} (hc : charP pI r us = (ts, .ok q)) : ∃ ts2 q2, charP p r us = (ts2, .ok q2) ∧ KT ts2 = KT ts ∧ Sim q2 q := by
  have h1 := h.char r us
  rw [hc] at h1
  rcases hp : charP p r us with ⟨ts2, o2⟩
  rw [hp] at h1
  cases o2 with
  | bad B L C => exact absurd h1.2 (fun c => c)
  | ok q2 => exact ⟨ts2, q2, rfl, h1.1, h1.2⟩
theorem char_bl : charP pI 32 [32] = ([], .ok (PS.nrm (pI.beg.add 3 [32]))) := rfl
theorem char_op : charP pI 40 [40] = ([(pI.beg.add 5 [40]).tok 1], .ok (PS.nrm { pI.beg.add 5 [40] with st := 3 })) := rfl
theorem char_cl : charP pI 41 [41] = ([(pI.beg.add 6 [41]).tok 1], .ok (PS.nrm { pI.beg.add 6 [41] with st := 3 })) := rfl
theorem end_start {p : PS} (h : Sim p pI) : endP p = ([], 0) := by
  unfold endP
  rw [h.1]
  rfl
theorem Sim.tr {p q r : PS} (h : Sim p q) (h2 : Sim q r) : Sim p r := ⟨h.1.trans h2.1, h.2.trans h2.2⟩
theorem rdy_start {p : PS} (h : Sim p pI) : Rdy p [] := by
  obtain ⟨t1, q1, a1, a2, a3⟩ := sim_ok h 32 [32] char_bl
  obtain ⟨t2, q2, b1, b2, b3⟩ := sim_ok h 41 [41] char_cl
  exact ⟨⟨t1, q1, a1, a2, a3.tr ⟨rfl, rfl⟩⟩, ⟨t2, q2, b1, b2, b3.tr ⟨rfl, rfl⟩⟩, by rw [end_start h]; exact ⟨rfl, rfl⟩⟩
theorem fol_close : ∀ st ∈ waits, kindN st ≠ 0 → folN st 41 = 23 := by decide
theorem one_rdy {s : ByteArray} {k : Int} {t : ByteArray} (h : OneT s k t) {p : PS} (hp : Sim p pI) : ∃ ts q L, feedP p (lsB s) = (ts, .ok q) ∧ Rdy q L ∧ KT ts ++ L = [(k.toNat, t)] := by
  obtain ⟨T, ts, q, h1, h2, h3, hw, h4⟩ := one_state h
  have hk : k.toNat = T.k := by omega
  have hs := hp.feed (lsB s)
  rw [h1] at hs
  rcases hq : feedP p (lsB s) with ⟨ts2, o2⟩
  rw [hq] at hs
  cases o2 with
  | bad B L C => exact absurd hs.2 (fun c => c)
  | ok q2 =>
    have hs2 : Sim q2 q := hs.2
    have hs1 : KT ts2 = KT ts := hs.1
    rcases h4 with ⟨e1, e2, e3, e4⟩ | ⟨e1, e2⟩
    · have hkT : ((q2.tok q2.rd).k, (q2.tok q2.rd).t) = (k.toNat, t) := by
        have := hs2.tok q2.rd q.rd
        rw [this.1, this.2, ← e4, h3, hk]
      have w2 : q2.st ∈ waits := by rw [hs2.1]; exact hw
      have k2 : kindN q2.st ≠ 0 := by rw [hs2.1]; exact e2
      have n2 : ¬ (q2.st = 8 ∨ q2.st = 21) := by rw [hs2.1]; exact e3
      refine ⟨ts2, q2, [(k.toNat, t)], rfl, ⟨?_, ?_, ?_⟩, by rw [hs1, e1]; rfl⟩
      · have h23 := fol_blank q2.st w2 k2
        have hn : nxt q2.st 32 = 3 := by unfold nxt; rw [if_pos h23]; decide
        have ht : q2.told 32 = [q2.tok q2.rd] := by unfold PS.told; rw [if_pos h23]
        have hcc : charP q2 32 [32] = ([q2.tok q2.rd], .ok ((q2.cut 32).beg.add 3 [32]).nrm) := by
          unfold charP
          rw [hn, ht, if_neg (by decide), if_neg (by decide), if_neg (by decide), if_neg (by decide)]
        exact ⟨_, _, hcc, by show [((q2.tok q2.rd).k, (q2.tok q2.rd).t)] = _; rw [hkT], ⟨rfl, rfl⟩⟩
      · have h23 := fol_close q2.st w2 k2
        have hn : nxt q2.st 41 = 6 := by unfold nxt; rw [if_pos h23]; decide
        have ht : q2.told 41 = [q2.tok q2.rd] := by unfold PS.told; rw [if_pos h23]
        have hcu : (q2.cut 41).beg.buf = [] := by unfold PS.cut; rw [if_pos h23]; rfl
        have hcc : charP q2 41 [41] = ([q2.tok q2.rd] ++ [((q2.cut 41).beg.add 6 [41]).tok (q2.rd + [41].length)], .ok (PS.nrm { (q2.cut 41).beg.add 6 [41] with st := 3 })) := by
          unfold charP
          rw [hn, ht, if_neg (by decide), if_neg (by decide), if_pos (by decide)]
          rfl
        refine ⟨_, _, hcc, ?_, ⟨rfl, rfl⟩⟩
        rw [KT_app]
        show [((q2.tok q2.rd).k, (q2.tok q2.rd).t)] ++ [(kindN 6, txt 6 ⟨((q2.cut 41).beg.buf ++ [41]).toArray⟩)] = _
        rw [hkT, hcu]
        rfl
      · have he : endP q2 = ([q2.tok q2.rd], 0) := by unfold endP; rw [if_neg n2, if_pos k2]
        rw [he]
        exact ⟨by show [((q2.tok q2.rd).k, (q2.tok q2.rd).t)] = _; rw [hkT], rfl⟩
    · refine ⟨ts2, q2, [], rfl, rdy_start (hs2.tr e2), ?_⟩
      rw [hs1, e1, List.append_nil, hk, ← h3]
      rfl
mutual
/-- a tree's tokens -/
def tkZ : NdZ → List (Nat × ByteArray)
  | .mk t kids => if t.k = 0 then (1, ⟨#[40]⟩) :: (tkL kids ++ [(2, ⟨#[41]⟩)]) else [(t.k.toNat, t.t)]
def tkL : List NdZ → List (Nat × ByteArray)
  | [] => []
  | x :: l => tkZ x ++ tkL l
end
theorem feedZ_cons {p q : PS} {u : UInt8} {us : List UInt8} {ts : List Tok} (h : charP p u.toNat [u] = (ts, .ok q)) : feedP p (u :: us) = (ts ++ (feedP q us).1, (feedP q us).2) := by
  simp only [feedP]
  rw [h]
theorem feedZ_on {p q : PS} {a b : List UInt8} {ts : List Tok} (h : feedP p a = (ts, .ok q)) : feedP p (a ++ b) = (ts ++ (feedP q b).1, (feedP q b).2) := by
  rw [feedP_app, h]
mutual
theorem node_rdy : ∀ (n : NdZ), erZ n = 0 → ∀ p, Sim p pI → ∃ ts q L, feedP p (txZ n) = (ts, .ok q) ∧ Rdy q L ∧ KT ts ++ L = tkZ n
  | .mk t kids, h, p, hp => by
    simp only [erZ, txZ, tkZ] at h ⊢
    by_cases h0 : t.k = 0
    · rw [if_pos h0] at h ⊢
      rw [if_pos h0]
      obtain ⟨t1, q1, a1, a2, a3⟩ := sim_ok hp 40 [40] char_op
      replace a3 := a3.tr (show Sim _ pI from ⟨rfl, rfl⟩)
      obtain ⟨t2, q2, L, b1, b2, b3⟩ := kids_rdy kids h q1 a3
      obtain ⟨t3, q3, c1, c2, c3⟩ := b2.cl
      have e1 : feedP q1 (txL kids ++ [41]) = (t2 ++ t3, .ok q3) := by rw [feedZ_on b1, feedP_one, show (41 : UInt8).toNat = 41 from rfl, c1]
      refine ⟨t1 ++ (t2 ++ t3), q3, [], by rw [feedZ_cons (u := 40) a1, e1], rdy_start c3, ?_⟩
      rw [KT_app, KT_app, a2, c2, List.append_nil, ← b3]
      show (1, (⟨#[40]⟩ : ByteArray)) :: (KT t2 ++ (L ++ [(2, ⟨#[41]⟩)])) = _
      simp only [List.append_assoc]
    · rw [if_neg h0] at h ⊢
      rw [if_neg h0]
      obtain ⟨s, e, h1, _⟩ := atom_one h0 h
      rw [e]
      exact one_rdy h1 hp
theorem kids_rdy : ∀ (l : List NdZ), erL l = 0 → ∀ p, Sim p pI → ∃ ts q L, feedP p (txL l) = (ts, .ok q) ∧ Rdy q L ∧ KT ts ++ L = tkL l
  | [], h, p, hp => ⟨[], p, [], by simp only [txL, feedP], rdy_start hp, by simp [tkL, KT]⟩
  | x :: l, h, p, hp => by
    simp only [erL, txL, tkL] at h ⊢
    by_cases hx : erZ x = 0
    · rw [if_pos hx] at h
      obtain ⟨t1, q1, L1, a1, a2, a3⟩ := node_rdy x hx p hp
      obtain ⟨t2, q2, L2, b1, b2, b3⟩ := more_rdy l h q1 L1 a2
      exact ⟨t1 ++ t2, q2, L2, by rw [feedZ_on a1, b1], b2, by rw [KT_app, List.append_assoc, b3, ← List.append_assoc, a3]⟩
    · rw [if_neg hx] at h; exact absurd h hx
theorem more_rdy : ∀ (l : List NdZ), erL l = 0 → ∀ p L, Rdy p L → ∃ ts q L2, feedP p (txM l) = (ts, .ok q) ∧ Rdy q L2 ∧ KT ts ++ L2 = L ++ tkL l
  | [], h, p, L, hp => ⟨[], p, L, by simp only [txM, feedP], hp, by simp [tkL, KT]⟩
  | x :: l, h, p, L, hp => by
    simp only [erL, txM, tkL] at h ⊢
    by_cases hx : erZ x = 0
    · rw [if_pos hx] at h
      obtain ⟨t0, q0, c1, c2, c3⟩ := hp.bl
      obtain ⟨t1, q1, L1, a1, a2, a3⟩ := node_rdy x hx q0 c3
      obtain ⟨t2, q2, L2, b1, b2, b3⟩ := more_rdy l h q1 L1 a2
      refine ⟨t0 ++ (t1 ++ t2), q2, L2, by rw [feedZ_cons (u := 32) c1, feedZ_on a1, b1], b2, ?_⟩
      rw [KT_app, KT_app, c2, List.append_assoc, List.append_assoc, b3, ← a3, List.append_assoc]
    · rw [if_neg hx] at h; exact absurd h hx
end
end Go.Proofs.YtpfmamimhhnbiaaDoor
