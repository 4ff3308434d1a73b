/-
  K8 of what is read, without memory: tokens stand in order, between them blanks and comments alone, lines and columns count.
-/
import Derived.Test.YtmadeobmlmopaaaDoorTSA
import Derived.Test.YtmadeobmlmopaaaDoorTSE
namespace Go.Proofs.YtmadeobmlmopaaaDoor
set_option linter.unusedVariables false
set_option linter.unusedSimpArgs false

/-- a place where something begins, behind what ends at fr -/
structure BgS (S : List UInt8) (fr b : Nat) (B L C : Int) : Prop where
  at_ : B = b
  le : fr ≤ b
  gap : gapAt S fr (b - fr) ≠ none
  ln : L = (nlN S b : Int) + 1
  cl : C = ((b - ahN S b : Nat) : Int) + 1
/-- tokens in order, from fr on; the last ends at the other number -/
inductive Chain (S : List UInt8) : Nat → List Tok → Nat → Prop
  | nil (fr : Nat) : Chain S fr [] fr
  | cons (fr b e fr2 : Nat) (t : Tok) (ts : List Tok) (hb : BgS S fr b t.b t.l t.c) (he : t.e = e) (hlt : b < e) (hle : e ≤ S.length) (hk : t.k ≠ 0) (h : Chain S e ts fr2) : Chain S fr (t :: ts) fr2
theorem Chain.app {S : List UInt8} {a b c : Nat} {l m : List Tok} (h : Chain S a l b) (k : Chain S b m c) : Chain S a (l ++ m) c := by
  induction h with
  | nil => exact k
  | cons fr x e fr2 t ts hb he hlt hle hk _ ih => exact .cons fr x e c t (ts ++ m) hb he hlt hle hk (ih k)
theorem Chain.one {S : List UInt8} {fr b e : Nat} {t : Tok} (hb : BgS S fr b t.b t.l t.c) (he : t.e = e) (hlt : b < e) (hle : e ≤ S.length) (hk : t.k ≠ 0) : Chain S fr [t] e := .cons fr b e e t [] hb he hlt hle hk (.nil e)
/-- what has been read of S, whose tokens end at fr -/
structure Cv (S : List UInt8) (fr : Nat) (p : PS) : Prop where
  rd : p.rd ≤ S.length
  ln : p.ln = nlN S p.rd
  ah : p.ah = ahN S p.rd
  lo : p.st ≤ 4 → fr ≤ p.rd ∧ gapAt S fr (p.rd - fr) = some p.st
  hi : 4 < p.st → ∃ b, BgS S fr b p.bB p.bL p.bC ∧ b < p.rd
theorem folN_no8 (r : Nat) : folN 8 r ≠ 23 := by
  by_cases h0 : r = 124
  · skip
    by_cases h1 : nbN r = true
    · skip
      simp [folN, quotN, numN, kindN, h0, h1]
    · skip
      simp [folN, quotN, numN, kindN, h0, h1]
  · skip
    by_cases h1 : nbN r = true
    · skip
      simp [folN, quotN, numN, kindN, h0, h1]
    · skip
      simp [folN, quotN, numN, kindN, h0, h1]
theorem folN_no10 (r : Nat) : folN 10 r ≠ 23 := by
  by_cases h0 : syN r = true
  · skip
    by_cases h1 : dgN r = true
    · skip
      simp [folN, quotN, numN, kindN, h0, h1]
    · skip
      simp [folN, quotN, numN, kindN, h0, h1]
  · skip
    by_cases h1 : dgN r = true
    · skip
      simp [folN, quotN, numN, kindN, h0, h1]
    · skip
      simp [folN, quotN, numN, kindN, h0, h1]
theorem folN_no14 (r : Nat) : folN 14 r ≠ 23 := by
  by_cases h0 : dgN r = true
  · skip
    simp [folN, quotN, numN, kindN, h0]
  · skip
    simp [folN, quotN, numN, kindN, h0]
theorem folN_no16 (r : Nat) : folN 16 r ≠ 23 := by
  by_cases h0 : r = 120
  · skip
    by_cases h1 : r = 98
    · skip
      simp [folN, quotN, numN, kindN, h0, h1]
    · skip
      simp [folN, quotN, numN, kindN, h0, h1]
  · skip
    by_cases h1 : r = 98
    · skip
      simp [folN, quotN, numN, kindN, h0, h1]
    · skip
      simp [folN, quotN, numN, kindN, h0, h1]
theorem folN_no17 (r : Nat) : folN 17 r ≠ 23 := by
  by_cases h0 : hxN r = true
  · skip
    simp [folN, quotN, numN, kindN, h0]
  · skip
    simp [folN, quotN, numN, kindN, h0]
theorem folN_no19 (r : Nat) : folN 19 r ≠ 23 := by
  by_cases h0 : biN r = true
  · skip
    simp [folN, quotN, numN, kindN, h0]
  · skip
    simp [folN, quotN, numN, kindN, h0]
theorem folN_no21 (r : Nat) : folN 21 r ≠ 23 := by
  by_cases h0 : r = 34
  · skip
    by_cases h1 : nqN r = true
    · skip
      simp [folN, quotN, numN, kindN, h0, h1]
    · skip
      simp [folN, quotN, numN, kindN, h0, h1]
  · skip
    by_cases h1 : nqN r = true
    · skip
      simp [folN, quotN, numN, kindN, h0, h1]
    · skip
      simp [folN, quotN, numN, kindN, h0, h1]
/-- a token ends only where there is one -/
theorem told_kind {st : Nat} (hs : st ∈ waits) {r : Nat} (h : folN st r = 23) : kindN st ≠ 0 ∧ 4 < st := by
  have h3 := startN_in r
  simp only [waits, List.mem_cons, List.not_mem_nil, or_false] at hs
  rcases hs with rfl | rfl | rfl | rfl | rfl | rfl | rfl | rfl | rfl | rfl | rfl | rfl | rfl | rfl | rfl | rfl | rfl
  · have e : folN 3 r = startN r := by simp [folN]
    rw [e] at h
    rw [h] at h3
    exact absurd h3 (by decide)
  · by_cases hr : r = 10 ∨ r = 13 <;> simp [folN, hr] at h
  · exact ⟨by decide, by decide⟩
  · exact absurd h (folN_no8 r)
  · exact absurd h (folN_no10 r)
  · exact ⟨by decide, by decide⟩
  · exact ⟨by decide, by decide⟩
  · exact ⟨by decide, by decide⟩
  · exact absurd h (folN_no14 r)
  · exact ⟨by decide, by decide⟩
  · exact absurd h (folN_no16 r)
  · exact absurd h (folN_no17 r)
  · exact ⟨by decide, by decide⟩
  · exact absurd h (folN_no19 r)
  · exact ⟨by decide, by decide⟩
  · exact absurd h (folN_no21 r)
  · exact ⟨by decide, by decide⟩
theorem nxt_ten : ∀ st ∈ waits, nxt st 10 ≠ 5 ∧ nxt st 10 ≠ 6 ∧ nxt st 10 ≠ 9 := by decide
/-- ahead of a character -/
theorem Cv.ahead {S : List UInt8} {fr : Nat} {p : PS} (h : Cv S fr p) (hi : Inv p) (r : Nat) : ∃ f b, Chain S fr (p.told r) f ∧ BgS S f b (p.cut r).beg.bB (p.cut r).beg.bL (p.cut r).beg.bC ∧ b ≤ p.rd ∧ nxt p.st r = folN (p.cut r).st r ∧ (p.cut r).st ∈ waits ∧
    ((p.cut r).st ≤ 4 → b = p.rd ∧ gapAt S f (p.rd - f) = some (p.cut r).st) := by
  by_cases h23 : folN p.st r = 23
  · obtain ⟨k1, k2⟩ := told_kind hi.wt h23
    obtain ⟨b, hb, hlt⟩ := h.hi k2
    have e1 : nxt p.st r = startN r := by unfold nxt; rw [if_pos h23]
    have e2 : p.cut r = { p with st := 3, buf := [] } := by unfold PS.cut; rw [if_pos h23]
    have e3 : p.told r = [p.tok p.rd] := by unfold PS.told; rw [if_pos h23]
    refine ⟨p.rd, p.rd, ?_, ?_, Nat.le_refl _, ?_, ?_, fun _ => ⟨rfl, ?_⟩⟩
    · rw [e3]; exact Chain.one (e := p.rd) hb rfl hlt h.rd k1
    · rw [e2]
      refine ⟨rfl, Nat.le_refl _, by rw [Nat.sub_self]; simp [gapAt], ?_, ?_⟩
      · show (p.ln : Int) + 1 = _; rw [h.ln]
      · show ((p.rd - p.ah : Nat) : Int) + 1 = _; rw [h.ah]
    · rw [e1, e2]; simp [folN]
    · rw [e2]; exact (by decide : (3 : Nat) ∈ waits)
    · rw [e2, Nat.sub_self]; rfl
  · have e1 : nxt p.st r = folN p.st r := by unfold nxt; rw [if_neg h23]
    have e2 : p.cut r = p := by unfold PS.cut; rw [if_neg h23]
    have e3 : p.told r = [] := by unfold PS.told; rw [if_neg h23]
    rw [e1, e2, e3]
    by_cases h4 : p.st ≤ 4
    · obtain ⟨l1, l2⟩ := h.lo h4
      have e4 : p.beg = { p with buf := [], bB := p.rd, bL := (p.ln : Int) + 1, bC := ((p.rd - p.ah : Nat) : Int) + 1 } := by unfold PS.beg; rw [if_pos h4]
      rw [e4]
      exact ⟨fr, p.rd, .nil fr, ⟨rfl, l1, by rw [l2]; simp, by rw [← h.ln], by rw [← h.ah]⟩, Nat.le_refl _, rfl, hi.wt, fun _ => ⟨rfl, l2⟩⟩
    · obtain ⟨b, hb, hlt⟩ := h.hi (by omega)
      have e4 : p.beg = p := by unfold PS.beg; rw [if_neg h4]
      rw [e4]
      exact ⟨fr, b, .nil fr, hb, by omega, rfl, hi.wt, fun c => absurd c h4⟩
/-- what a character leaves -/
def Left (S : List UInt8) (fr : Nat) : List Tok × Out → Prop
  | (ts, .ok q) => ∃ f, Chain S fr ts f ∧ Cv S f q
  | (ts, .bad B _ _) => ∃ f b : Nat, Chain S fr ts f ∧ B = b ∧ f ≤ b ∧ b < S.length
theorem Cv.char {S : List UInt8} {fr : Nat} {p : PS} (h : Cv S fr p) (hi : Inv p) (u : UInt8) (hrd : p.rd < S.length) (hu : byS S p.rd = u.toNat) : Left S fr (charP p u.toNat [u]) := by
  obtain ⟨f, b, ch, bg, hb, hn, hw, hlo⟩ := h.ahead hi u.toNat
  obtain ⟨f1, f2, f3, _⟩ := beg_facts hi u.toNat
  have ht := nxt_ten p.st hi.wt
  unfold charP
  generalize (p.cut u.toNat).beg = P at bg f1 f2 f3 ⊢
  generalize (p.cut u.toNat).st = c at hn hw hlo
  have hgt := fun k => folN_gt hw k u.toNat
  rw [← hn] at hgt
  have hnx : nxt p.st u.toNat = folN c (byS S p.rd) := by rw [hu]; exact hn
  have h10' : u.toNat = 10 → nxt p.st u.toNat ≠ 5 ∧ nxt p.st u.toNat ≠ 6 ∧ nxt p.st u.toNat ≠ 9 := fun e => by rw [e]; exact ht
  generalize nxt p.st u.toNat = x at hgt hnx h10' ⊢
  by_cases h24 : x = 24
  · rw [if_pos h24]; exact ⟨f, b, ch, bg.at_, bg.le, by omega⟩
  rw [if_neg h24]
  by_cases h25 : x = 25
  · rw [if_pos h25]; exact ⟨f, p.rd, ch, rfl, by have := bg.le; omega, hrd⟩
  rw [if_neg h25]
  by_cases h5 : x = 5 ∨ x = 6 ∨ x = 9
  · rw [if_pos h5]
    have n10 : u.toNat ≠ 10 := fun e => by have := h10' e; omega
    refine ⟨p.rd + 1, ch.app (Chain.one (b := b) (e := p.rd + 1) bg rfl (by omega) (by omega) ?_), ⟨?_, ?_, ?_, fun _ => ⟨?_, ?_⟩, fun k => ?_⟩⟩
    · show kindN x ≠ 0
      rcases h5 with h5 | h5 | h5 <;> subst h5 <;> decide
    · rw [nrm_rd]; show P.rd + 1 ≤ _; omega
    · rw [nrm_ln, nrm_rd]; show P.ln = nlN S (P.rd + 1); rw [f1, f2]; simp only [nlN]; rw [hu, if_neg n10]; exact h.ln
    · rw [nrm_ah, nrm_rd]; show P.ah = ahN S (P.rd + 1); rw [f1, f3]; simp only [ahN]; rw [hu, if_neg n10]; exact h.ah
    · rw [nrm_rd]; show p.rd + 1 ≤ P.rd + 1; omega
    · rw [nrm_rd, nrm_st]; show gapAt S (p.rd + 1) (P.rd + 1 - (p.rd + 1)) = some 3; rw [f1, Nat.sub_self]; rfl
    · rw [nrm_st] at k; exact absurd k (by show ¬ 4 < 3; omega)
  rw [if_neg h5]
  have fin : ∀ Q : PS, Q.st = x → Q.rd = p.rd + 1 → Q.bB = P.bB → Q.bL = P.bL → Q.bC = P.bC → Q.ln = nlN S (p.rd + 1) → Q.ah = ahN S (p.rd + 1) → Cv S f Q.nrm := fun Q e1 e2 e3 e4 e5 e6 e7 => by
    refine ⟨by rw [nrm_rd]; omega, by rw [nrm_ln, nrm_rd, e2]; exact e6, by rw [nrm_ah, nrm_rd, e2]; exact e7, fun k => ?_, fun k => ?_⟩
    · rw [nrm_st, e1] at k
      have hc : c ≤ 4 := by rcases Nat.lt_or_ge 4 c with q | q; · have := hgt q; omega
                            · exact q
      obtain ⟨l1, l2⟩ := hlo hc
      have := bg.le
      rw [nrm_rd, nrm_st, e1, e2]
      refine ⟨by omega, ?_⟩
      rw [show p.rd + 1 - f = (p.rd - f) + 1 by omega]
      simp only [gapAt]
      rw [l2]
      simp only
      rw [show f + (p.rd - f) = p.rd by omega, ← hnx, if_pos k]
    · rw [nrm_st] at k
      rw [nrm_buf Q k, e2, e3, e4, e5]
      exact ⟨b, bg, by omega⟩
  by_cases h10 : u.toNat = 10
  · rw [if_pos h10]
    refine ⟨f, ch, fin _ rfl (by show P.rd + 1 = _; omega) rfl rfl rfl ?_ ?_⟩
    · show p.ln + 1 = _; simp only [nlN]; rw [hu, if_pos h10, h.ln]
    · show p.rd + 1 = _; simp only [ahN]; rw [hu, if_pos h10]
  · rw [if_neg h10]
    refine ⟨f, ch, fin _ rfl (by show P.rd + 1 = _; omega) rfl rfl rfl ?_ ?_⟩
    · show P.ln = _; simp only [nlN]; rw [hu, if_neg h10, f2, h.ln]
    · show P.ah = _; simp only [ahN]; rw [hu, if_neg h10, f3, h.ah]
theorem Cv.feed {S : List UInt8} : ∀ (l : List UInt8) {fr : Nat} {p : PS} (h : Cv S fr p) (hi : Inv p) (hl : S.drop p.rd = l), Left S fr (feedP p l) ∧ ∀ ts q, feedP p l = (ts, .ok q) → q.rd = S.length ∧ Inv q
  | [], fr, p, h, hi, hl => by
    have hle : S.length ≤ p.rd := List.drop_eq_nil_iff.1 hl
    refine ⟨⟨fr, .nil fr, h⟩, fun ts q e => ?_⟩
    simp only [feedP, Prod.mk.injEq, Out.ok.injEq] at e
    obtain ⟨_, rfl⟩ := e
    exact ⟨Nat.le_antisymm h.rd hle, hi⟩
  | u :: us, fr, p, h, hi, hl => by
    have hrd : p.rd < S.length := by
      rcases Nat.lt_or_ge p.rd S.length with q | q
      · exact q
      · rw [List.drop_eq_nil_iff.2 q] at hl; cases hl
    have hd := List.drop_eq_getElem_cons hrd
    rw [hl] at hd
    injection hd with hd1 hd2
    have hu : byS S p.rd = u.toNat := by unfold byS; rw [List.getD_eq_getElem?_getD, List.getElem?_eq_getElem hrd, hd1]; rfl
    have hc := h.char hi u hrd hu
    simp only [feedP]
    rcases he : charP p u.toNat [u] with ⟨ts, o⟩
    rw [he] at hc
    cases o with
    | bad B L C => exact ⟨hc, fun _ _ e => by simp at e⟩
    | ok q =>
      obtain ⟨hiq, hq⟩ := hi.char (us := [u]) (Nat.le_refl 1) he
      obtain ⟨f, ch, cv⟩ := hc
      obtain ⟨ih1, ih2⟩ := Cv.feed us cv hiq (by rw [hq]; exact hd2.symm)
      simp only
      rcases hf : feedP q us with ⟨t2, o2⟩
      rw [hf] at ih1 ih2
      cases o2 with
      | bad B L C =>
        obtain ⟨f2, b, c2, r⟩ := ih1
        exact ⟨⟨f2, b, ch.app c2, r⟩, fun _ _ e => by simp at e⟩
      | ok q2 =>
        obtain ⟨f2, c2, r⟩ := ih1
        refine ⟨⟨f2, ch.app c2, r⟩, fun ts3 q3 e => ih2 t2 q3 ?_⟩
        simp only [Prod.mk.injEq] at e
        rw [e.2]
theorem Cv_pI (S : List UInt8) : Cv S 0 pI := ⟨Nat.zero_le _, rfl, rfl, fun _ => ⟨Nat.le_refl _, rfl⟩, fun k => absurd k (by decide)⟩
/-- K8, of All -/
theorem all_cover (S : List UInt8) : ∃ f, Chain S 0 (allP S).1 f ∧ ((allP S).2 = 0 → f ≤ S.length ∧ gapAt S f (S.length - f) ≠ none) ∧ ((allP S).2 ≠ 0 → ∃ b : Nat, (allE S).1 = b ∧ f ≤ b ∧ b < S.length) := by
  obtain ⟨h1, h2⟩ := (Cv_pI S).feed S Inv_pI rfl
  unfold allP allE
  rcases hf : feedP pI S with ⟨ts, o⟩
  rw [hf] at h1 h2
  cases o with
  | bad B L C =>
    obtain ⟨f, b, ch, r1, r2, r3⟩ := h1
    exact ⟨f, ch, fun e => absurd (show (120 : Int) = 0 from e) (by decide), fun _ => ⟨b, r1, r2, r3⟩⟩
  | ok q =>
    obtain ⟨f, ch, cv⟩ := h1
    obtain ⟨hq, hi⟩ := h2 ts q rfl
    simp only
    unfold endP
    by_cases h8 : q.st = 8 ∨ q.st = 21
    · rw [if_pos h8]
      obtain ⟨b, bg, hlt⟩ := cv.hi (by omega)
      exact ⟨f, by rw [List.append_nil]; exact ch, fun e => absurd (show (121 : Int) = 0 from e) (by decide), fun _ => ⟨b, bg.at_, bg.le, by omega⟩⟩
    rw [if_neg h8]
    by_cases hk : kindN q.st ≠ 0
    · rw [if_pos hk]
      have h4 : 4 < q.st := by
        rcases Nat.lt_or_ge 4 q.st with k | k
        · exact k
        · exfalso
          have hw := hi.wt
          generalize q.st = st at hw hk k
          have : ∀ st ∈ waits, st ≤ 4 → kindN st = 0 := by decide
          exact hk (this st hw k)
      obtain ⟨b, bg, hlt⟩ := cv.hi h4
      exact ⟨q.rd, ch.app (Chain.one (b := b) (e := q.rd) bg rfl hlt cv.rd hk), fun _ => ⟨cv.rd, by rw [hq, Nat.sub_self]; simp [gapAt]⟩, fun e => absurd rfl e⟩
    rw [if_neg hk]
    by_cases h4 : 4 < q.st
    · rw [if_pos h4]
      obtain ⟨b, bg, hlt⟩ := cv.hi h4
      exact ⟨f, by rw [List.append_nil]; exact ch, fun e => absurd (show (120 : Int) = 0 from e) (by decide), fun _ => ⟨b, bg.at_, bg.le, by omega⟩⟩
    · rw [if_neg h4]
      obtain ⟨l1, l2⟩ := cv.lo (by omega)
      rw [hq] at l1 l2
      exact ⟨f, by rw [List.append_nil]; exact ch, fun _ => ⟨l1, by rw [l2]; simp⟩, fun e => absurd rfl e⟩
end Go.Proofs.YtmadeobmlmopaaaDoor
