/-
  Printed tokens with blanks between them are read as the same tokens: without memory.
-/
import Derived.Test.YtdbhhlecdgbpkaaDoorTQ0
namespace Go.Proofs.YtdbhhlecdgbpkaaDoor
open Go.RowKit
set_option linter.unusedVariables false
set_option linter.unusedSimpArgs false

def KT (l : List Tok) : List (Nat × ByteArray) := l.map fun T => (T.k, T.t)
theorem KT_app (a b : List Tok) : KT (a ++ b) = KT a ++ KT b := by simp [KT]
/-- the same, but for the places -/
def Sim (p q : PS) : Prop := p.st = q.st ∧ p.buf = q.buf
def SimO : Out → Out → Prop
  | .ok p, .ok q => Sim p q
  | .bad _ _ _, .bad _ _ _ => True
  | _, _ => False
theorem Sim.tok {p q : PS} (h : Sim p q) (a b : Nat) : (p.tok a).k = (q.tok b).k ∧ (p.tok a).t = (q.tok b).t := by
  unfold PS.tok
  rw [h.1, h.2]
  exact ⟨rfl, rfl⟩
theorem Sim.nrm {p q : PS} (h : Sim p q) : Sim p.nrm q.nrm := by
  unfold PS.nrm
  rw [h.1]
  split
  · exact ⟨rfl, rfl⟩
  · exact h
theorem Sim.beg {p q : PS} (h : Sim p q) : Sim p.beg q.beg := by
  unfold PS.beg
  rw [h.1]
  split
  · exact ⟨rfl, rfl⟩
  · exact h
theorem Sim.cut {p q : PS} (h : Sim p q) (r : Nat) : Sim (p.cut r) (q.cut r) := by
  unfold PS.cut
  rw [h.1]
  split
  · exact ⟨rfl, rfl⟩
  · exact h
theorem Sim.told {p q : PS} (h : Sim p q) (r : Nat) : KT (p.told r) = KT (q.told r) := by
  unfold PS.told
  rw [h.1]
  split
  · have := h.tok p.rd q.rd
    simp only [KT, List.map]
    rw [this.1, this.2]
  · rfl
theorem Sim.char {p q : PS} (h : Sim p q) (r : Nat) (us : List UInt8) : KT (charP p r us).1 = KT (charP q r us).1 ∧ SimO (charP p r us).2 (charP q r us).2 := by
  have ht := h.told r
  have hc := (h.cut r).beg
  unfold charP
  rw [h.1]
  generalize (p.cut r).beg = P at hc
  generalize (q.cut r).beg = Q at hc
  by_cases h24 : nxt q.st r = 24
  · rw [if_pos h24, if_pos h24]; exact ⟨ht, trivial⟩
  rw [if_neg h24, if_neg h24]
  by_cases h25 : nxt q.st r = 25
  · rw [if_pos h25, if_pos h25]; exact ⟨ht, trivial⟩
  rw [if_neg h25, if_neg h25]
  by_cases h5 : nxt q.st r = 5 ∨ nxt q.st r = 6 ∨ nxt q.st r = 9
  · rw [if_pos h5, if_pos h5]
    have hs : Sim (P.add (nxt q.st r) us) (Q.add (nxt q.st r) us) := ⟨rfl, by show P.buf ++ us = Q.buf ++ us; rw [hc.2]⟩
    have hk := hs.tok (p.rd + us.length) (q.rd + us.length)
    refine ⟨?_, ?_⟩
    · rw [KT_app, KT_app, ht]
      simp only [KT, List.map]
      rw [hk.1, hk.2]
    · exact Sim.nrm (show Sim { P.add (nxt q.st r) us with st := 3 } { Q.add (nxt q.st r) us with st := 3 } from ⟨rfl, hs.2⟩)
  rw [if_neg h5, if_neg h5]
  have hs : Sim (P.add (nxt q.st r) us) (Q.add (nxt q.st r) us) := ⟨rfl, by show P.buf ++ us = Q.buf ++ us; rw [hc.2]⟩
  by_cases h10 : r = 10
  · rw [if_pos h10, if_pos h10]
    exact ⟨ht, Sim.nrm (show Sim { P.add (nxt q.st r) us with ln := p.ln + 1, ah := p.rd + us.length } { Q.add (nxt q.st r) us with ln := q.ln + 1, ah := q.rd + us.length } from ⟨hs.1, hs.2⟩)⟩
  · rw [if_neg h10, if_neg h10]
    exact ⟨ht, hs.nrm⟩
theorem Sim.feed {p q : PS} (h : Sim p q) (bs : List UInt8) : KT (feedP p bs).1 = KT (feedP q bs).1 ∧ SimO (feedP p bs).2 (feedP q bs).2 := by
  induction bs generalizing p q with
  | nil => exact ⟨rfl, h⟩
  | cons u us ih =>
    have hc := h.char u.toNat [u]
    simp only [feedP]
    rcases h1 : charP p u.toNat [u] with ⟨t1, o1⟩
    rcases h2 : charP q u.toNat [u] with ⟨t2, o2⟩
    rw [h1, h2] at hc
    cases o1 with
    | bad B L C =>
      cases o2 with
      | bad B2 L2 C2 => exact hc
      | ok q2 => exact absurd hc.2 (fun c => c)
    | ok p1 =>
      cases o2 with
      | bad B2 L2 C2 => exact absurd hc.2 (fun c => c)
      | ok q2 =>
        obtain ⟨i1, i2⟩ := ih (show Sim p1 q2 from hc.2)
        simp only
        rw [KT_app, KT_app, i1, hc.1]
        exact ⟨rfl, i2⟩
theorem fol_blank : ∀ st ∈ waits, kindN st ≠ 0 → folN st 32 = 23 := by decide
/-- one token, and a blank behind it -/
theorem one_blank {s : ByteArray} {k : Int} {t : ByteArray} (h : OneT s k t) : ∃ T q, feedP pI (lsB s ++ [32]) = ([T], .ok q) ∧ (T.k : Int) = k ∧ T.t = t ∧ Sim q pI := by
  obtain ⟨T, h1, h2, h3, h4, h5, h6⟩ := h
  have hi := Inv_pI
  rcases hf : feedP pI (lsB s) with ⟨ts, o⟩
  have hap : allP (lsB s) = (match (ts, o) with | (ts, .bad _ _ _) => (ts, 120) | (ts, .ok q) => (ts ++ (endP q).1, (endP q).2)) := by unfold allP; rw [hf]; rfl
  cases o with
  | bad B L C =>
    rw [hap] at h2
    exact absurd (show (120 : Int) = 0 from h2) (by decide)
  | ok q =>
    rw [hap] at h1 h2
    simp only at h1 h2
    have hw := (feed_rd (lsB s) hi hf).1
    have happ : feedP pI (lsB s ++ [32]) = (ts ++ (charP q 32 [32]).1, (charP q 32 [32]).2) := by
      rw [feedP_app, hf]
      simp only
      rw [feedP_one]
      rfl
    rw [happ]
    by_cases h8 : q.st = 8 ∨ q.st = 21
    · unfold endP at h2
      rw [if_pos h8] at h2
      exact absurd h2 (by decide)
    by_cases hk : kindN q.st ≠ 0
    · have he : endP q = ([q.tok q.rd], 0) := by unfold endP; rw [if_neg h8, if_pos hk]
      rw [he] at h1
      have hts : ts = [] := by
        cases ts with
        | nil => rfl
        | cons a l =>
          simp only [List.cons_append] at h1
          injection h1 with _ h1
          exact absurd h1 (by simp)
      subst hts
      simp only [List.nil_append] at h1 ⊢
      injection h1 with h1 _
      have h23 := fol_blank q.st hw.wt hk
      have hn : nxt q.st 32 = 3 := by unfold nxt; rw [if_pos h23]; decide
      have ht : q.told 32 = [q.tok q.rd] := by unfold PS.told; rw [if_pos h23]
      have hcc : charP q 32 [32] = ([q.tok q.rd], .ok ((q.cut 32).beg.add 3 [32]).nrm) := by
        unfold charP
        rw [hn, ht, if_neg (by decide), if_neg (by decide), if_neg (by decide), if_neg (by decide)]
      rw [hcc]
      refine ⟨T, _, by rw [h1], h3, h4, ?_⟩
      exact ⟨rfl, rfl⟩
    · by_cases h4' : 4 < q.st
      · unfold endP at h2
        rw [if_neg h8, if_neg hk, if_pos h4'] at h2
        exact absurd h2 (by decide)
      · have he : endP q = ([], 0) := by unfold endP; rw [if_neg h8, if_neg hk, if_neg h4']
        rw [he, List.append_nil] at h1
        -- the token ends where the text ends: what is waited for is nothing
        have hst : q.st = 3 := by
          obtain ⟨i, k', e, t', q1, q2, hT, hz⟩ := first_tok (S := lsB s) (T := T) (L := []) (by rw [hap]; simp only; rw [he, List.append_nil]; exact h1)
          have e6 : (e : Int) = s.size := by rw [hT] at h6; exact h6
          have e5 : (i : Int) = 0 := by rw [hT] at h5; exact h5
          obtain ⟨s1, self, s2⟩ : ∃ (x : Unit) (self : Bool), lookP (lsB s) 0 = .tok k' t' e self ∧ 4 < startN (byS (lsB s) 0) := by
            have hg := gapE_spec (lsB s) 3 0 (Or.inl rfl) (Nat.zero_le _)
            have eg := allF_gap (S := lsB s) (k := 0) (Nat.zero_le _)
            obtain ⟨z1, _, _⟩ := allF_zero (lsB s)
            have h1' : (allP (lsB s)).1 = [T] := by rw [hap]; simp only; rw [he, List.append_nil]; exact h1
            rw [h1', ← eg] at z1
            by_cases hl : gapE (lsB s) 3 0 < (lsB s).length
            · have hsx := look_step hl (hg.2.2.1 hl)
              rcases hX : lookP (lsB s) (gapE (lsB s) 3 0) with ⟨kk, tt, ee, self⟩ | code | x
              · rw [hX] at hsx
                rw [allF_tok hsx] at z1
                injection z1 with z1 _
                rw [hT] at z1
                injection z1 with y1 y2 y3 y4 y5 y6
                have e0 : gapE (lsB s) 3 0 = 0 := by omega
                rw [e0] at hX hg hl
                have : ee = e := by omega
                subst this
                subst y1
                subst y2
                exact ⟨(), self, hX, hg.2.2.1 hl⟩
              · rw [hX] at hsx
                rw [(allF_half hsx).2] at z1
                cases z1
              · rw [hX] at hsx
                rw [allF_bad hsx] at z1
                cases z1
            · have e0 : gapE (lsB s) 3 0 = (lsB s).length := by omega
              rw [e0, allF_end] at z1
              cases z1
          have hl0 : 0 < (lsB s).length := by rw [lsB_len]; omega
          have hst := look_step hl0 s2.2
          rw [s2.1] at hst
          have ee : e = (lsB s).length := by rw [lsB_len]; omega
          obtain ⟨_, _, _, y3, y4⟩ := hst
          rw [frs_pI, List.drop_zero, hf] at y3 y4
          cases self with
          | true =>
            have y := y3 (Or.inl rfl)
            rw [ee, List.drop_length] at y
            have : (Out.ok q) = .ok (frs (lsB s) 3 (lsB s).length) := (Prod.mk.inj y).2
            injection this with this
            rw [this]
            rfl
          | false =>
            obtain ⟨st, y5, y6, _⟩ := y4 rfl ee
            have : (Out.ok q) = .ok (mid (lsB s) st 0 e) := (Prod.mk.inj y5).2
            injection this with this
            rw [this] at h4'
            exact absurd y6 h4'
        have hcc : charP q 32 [32] = ([], .ok ((q.cut 32).beg.add 3 [32]).nrm) := by
          have h23 : folN q.st 32 = 3 := by rw [hst]; decide
          have hn : nxt q.st 32 = 3 := by unfold nxt; rw [if_neg (by omega)]; exact h23
          have ht : q.told 32 = [] := by unfold PS.told; rw [if_neg (by omega)]
          unfold charP
          rw [hn, ht, if_neg (by decide), if_neg (by decide), if_neg (by decide), if_neg (by decide)]
        rw [hcc, List.append_nil]
        exact ⟨T, ((q.cut 32).beg.add 3 [32]).nrm, by rw [h1], h3, h4, ⟨rfl, rfl⟩⟩
/-- tokens printed, with a blank behind each -/
def cat (pr : Tok → ByteArray) : List Tok → ByteArray
  | [] => ⟨#[]⟩
  | T :: l => pr T ++ ⟨#[32]⟩ ++ cat pr l
theorem cat_app (pr : Tok → ByteArray) (a b : List Tok) : cat pr (a ++ b) = cat pr a ++ cat pr b := by
  induction a with
  | nil =>
    show cat pr b = ⟨#[]⟩ ++ cat pr b
    apply ByteArray.ext
    rw [ByteArray.data_append]
    simp
  | cons T a ih =>
    show pr T ++ ⟨#[32]⟩ ++ cat pr (a ++ b) = pr T ++ ⟨#[32]⟩ ++ cat pr a ++ cat pr b
    rw [ih]
    simp only [ByteArray.append_assoc]
theorem cat_read (pr : Tok → ByteArray) (l : List Tok) (h : ∀ T ∈ l, OneT (pr T) T.k T.t) : ∃ ts q, feedP pI (lsB (cat pr l)) = (ts, .ok q) ∧ KT ts = KT l ∧ Sim q pI := by
  induction l with
  | nil => exact ⟨[], pI, rfl, rfl, rfl, rfl⟩
  | cons T l ih =>
    obtain ⟨T1, q1, a1, a2, a3, a4⟩ := one_blank (h T List.mem_cons_self)
    obtain ⟨ts, q, b1, b2, b3⟩ := ih (fun X hX => h X (List.mem_cons_of_mem _ hX))
    have e : lsB (cat pr (T :: l)) = (lsB (pr T) ++ [32]) ++ lsB (cat pr l) := by
      show lsB (pr T ++ ⟨#[32]⟩ ++ cat pr l) = _
      rw [lsB_app, lsB_app]
      rfl
    have hs := a4.feed (lsB (cat pr l))
    rw [b1] at hs
    rcases hq : feedP q1 (lsB (cat pr l)) with ⟨ts2, o2⟩
    rw [hq] at hs
    cases o2 with
    | bad B L C => exact absurd hs.2 (fun c => c)
    | ok q2 =>
      have hs2 : Sim q2 q := hs.2
      refine ⟨T1 :: ts2, q2, ?_, ?_, hs2.1.trans b3.1, hs2.2.trans b3.2⟩
      · rw [e, feedP_app, a1]
        simp only
        rw [hq]
        rfl
      · show (T1.k, T1.t) :: KT ts2 = (T.k, T.t) :: KT l
        have hk : T1.k = T.k := by omega
        rw [hk, a3]
        congr 1
        exact hs.1.trans b2
theorem cat_all (pr : Tok → ByteArray) (l : List Tok) (h : ∀ T ∈ l, OneT (pr T) T.k T.t) : KT (allP (lsB (cat pr l))).1 = KT l ∧ (allP (lsB (cat pr l))).2 = 0 := by
  obtain ⟨ts, q, h1, h2, h3⟩ := cat_read pr l h
  have he : endP q = ([], 0) := by
    unfold endP
    rw [h3.1]
    rfl
  unfold allP
  rw [h1]
  simp only
  rw [he, List.append_nil]
  exact ⟨h2, rfl⟩
/-- every token that is read can be printed; how long they are together -/
def wgt : List Tok → Nat
  | [] => 0
  | T :: l => 2 * T.t.size + 3 + wgt l
theorem wgt_app (a b : List Tok) : wgt (a ++ b) = wgt a + wgt b := by
  induction a with
  | nil => simp [wgt]
  | cons T a ih => simp only [List.cons_append, wgt, ih]; omega
theorem cat_size (pr : Tok → ByteArray) (l : List Tok) (h : ∀ T ∈ l, (pr T).size ≤ 2 * T.t.size + 2) : (cat pr l).size ≤ wgt l := by
  induction l with
  | nil => exact Nat.zero_le _
  | cons T l ih =>
    show (pr T ++ ⟨#[32]⟩ ++ cat pr l).size ≤ _
    rw [ByteArray.size_append, ByteArray.size_append]
    have h1 := h T List.mem_cons_self
    have h2 := ih (fun X hX => h X (List.mem_cons_of_mem _ hX))
    show (pr T).size + 1 + (cat pr l).size ≤ 2 * T.t.size + 3 + wgt l
    omega
end Go.Proofs.YtdbhhlecdgbpkaaDoor
