/-
  TokensPieces: where a scanner stands; strings that came in as a list.
-/
import Derived.Test.YtmgecifbimhjkaaDoorTX2
import Derived.Test.YtmgecifbimhjkaaDoorTX1
import Derived.Test.YtmgecifbimhjkaaDoorTSG
import Derived.Test.YtmgecifbimhjkaaDoorTP1
namespace Go.Proofs.YtmgecifbimhjkaaDoor
open Go.RowKit
set_option linter.unusedVariables false
set_option linter.unusedSimpArgs false

theorem feed_last (S : List UInt8) (k : Nat) (hk : k ≤ S.length) (ts : List Tok) (q : PS) (h : feedP (frs S 3 k) (S.drop k) = (ts, .ok q)) : (∃ st, (st = 3 ∨ st = 4) ∧ q = frs S st S.length) ∨ (∃ st i, 4 < st ∧ i < S.length ∧ q = mid S st i S.length) := by
  obtain ⟨a1, a2, a3, st', b1, b2, b3⟩ := gapE_spec S 3 k (Or.inl rfl) hk
  rw [b3] at h
  by_cases hl : gapE S 3 k < S.length
  · rw [b2 hl] at h
    have hs := look_step hl (a3 hl)
    rcases hX : lookP S (gapE S 3 k) with ⟨kk, t, e, self⟩ | code | x
    · rw [hX] at hs
      obtain ⟨h1, h2, _, h3, h4⟩ := hs
      by_cases hc : self = true ∨ e < S.length
      · rw [h3 hc] at h
        unfold consT at h
        rcases hr : feedP (frs S 3 e) (S.drop e) with ⟨ts2, o2⟩
        rw [hr] at h
        injection h with _ h
        simp only at h
        rw [h] at hr
        exact feed_last S e h2 ts2 q hr
      · have hs2 : self = false := by cases self; rfl; exact absurd (Or.inl rfl) hc
        have he : e = S.length := by
          rcases Nat.lt_or_ge e S.length with z | z
          · exact absurd (Or.inr z) hc
          · omega
        obtain ⟨st, f1, f2, _⟩ := h4 hs2 he
        rw [f1] at h
        injection h with _ h
        injection h with h
        exact Or.inr ⟨st, _, f2, hl, by rw [← h, he]⟩
    · rw [hX] at hs
      obtain ⟨st, f1, f2, _⟩ := hs
      rw [f1] at h
      injection h with _ h
      injection h with h
      exact Or.inr ⟨st, _, f2, hl, h.symm⟩
    · rw [hX] at hs
      rw [hs.2.2] at h
      injection h with _ h
      cases h
  · have e : gapE S 3 k = S.length := by omega
    rw [e, List.drop_length] at h
    injection h with _ h
    injection h with h
    exact Or.inl ⟨st', b1, h.symm⟩
termination_by S.length - k
decreasing_by omega
/-- the place that a scanner is at, and the reference's -/
def AtN (S : List UInt8) (n : Nat) (B L C : Int) : Prop := B = n ∧ L = (nlN S n : Int) + 1 ∧ C = ((n - ahN S n : Nat) : Int) + 1
theorem place_ok {S : List UInt8} {ts : List Tok} {q : PS} (h : feedP pI S = (ts, .ok q)) : ∃ n, n ≤ S.length ∧ (rdF false S 0).2.2 = (n : Int) ∧ (4 < q.st → AtN S n q.bB q.bL q.bC) ∧ (¬ 4 < q.st → n = S.length) ∧ q.rd = S.length ∧ q.ln = nlN S S.length ∧ q.ah = ahN S S.length ∧ (¬ 4 < q.st → q.st = 3 ∨ q.st = 4) := by
  have hr := rd_feed false h
  rcases feed_last S 0 (Nat.zero_le _) ts q (by rw [frs_pI, List.drop_zero]; exact h) with ⟨st, h3, e⟩ | ⟨st, i, h4, hi, e⟩
  · subst e
    have h5 : ¬ 4 < (frs S st S.length).st := by show ¬ 4 < st; omega
    refine ⟨S.length, Nat.le_refl _, ?_, fun c => absurd c h5, fun _ => rfl, rfl, rfl, rfl, fun _ => h3⟩
    rw [hr]
    simp only [rdO]
    rw [if_neg h5]
    rfl
  · subst e
    have h5 : 4 < (mid S st i S.length).st := h4
    refine ⟨i, by omega, ?_, fun _ => ⟨rfl, rfl, rfl⟩, fun c => absurd h5 c, rfl, rfl, rfl, fun c => absurd h5 c⟩
    rw [hr]
    simp only [rdO]
    rw [if_pos h5]
    rfl
theorem place_bad {S : List UInt8} {ts : List Tok} {B L C : Int} (h : feedP pI S = (ts, .bad B L C)) : ∃ n, n ≤ S.length ∧ (rdF false S 0).2.2 = (n : Int) ∧ AtN S n B L C := by
  have hr := rd_feed false h
  have ha : allF S 0 = (ts, 120, B, L, C) := by unfold allF; rw [frs_pI, List.drop_zero, h]; rfl
  obtain ⟨b, hb, e⟩ := allF_place S 0 (Nat.zero_le _) (by rw [ha]; show (120 : Int) ≠ 0; decide)
  rw [ha] at e
  simp only [Prod.mk.injEq] at e
  refine ⟨b, by omega, ?_, e.1, e.2.1, e.2.2⟩
  rw [hr]
  exact e.1
theorem place_end {S : List UInt8} {ts : List Tok} {q : PS} (h : feedP pI S = (ts, .ok q)) : ∃ n, n ≤ S.length ∧ (rdF true S 0).2.2 = (n : Int) ∧ (rdF true S 0).2.1 = (endP q).2 ∧ ((endP q).2 ≠ 0 → AtN S n q.bB q.bL q.bC) ∧ ((endP q).2 = 0 → n = S.length) := by
  have hr := rd_feed true h
  have hr2 : rdF true S 0 = (ts ++ (endP q).1, (endP q).2, if (endP q).2 = 0 then (S.length : Int) else q.bB) := hr
  by_cases h0 : (endP q).2 = 0
  · exact ⟨S.length, Nat.le_refl _, by rw [hr2]; simp only; rw [if_pos h0], by rw [hr2], fun c => absurd h0 c, fun _ => rfl⟩
  · rcases feed_last S 0 (Nat.zero_le _) ts q (by rw [frs_pI, List.drop_zero]; exact h) with ⟨st, h3, e⟩ | ⟨st, i, h4, hi, e⟩
    · exfalso
      subst e
      rcases h3 with rfl | rfl <;> exact h0 rfl
    · refine ⟨i, by omega, ?_, by rw [hr2], fun _ => ?_, fun c => absurd c h0⟩
      · rw [hr2]; simp only; rw [if_neg h0, e]; rfl
      · rw [e]; exact ⟨rfl, rfl, rfl⟩
def tots (g : Nat → ByteArray) : Nat → Nat
  | 0 => 0
  | k + 1 => tots g k + (g k).size
theorem tots_mono (g : Nat → ByteArray) {a b : Nat} (h : a ≤ b) : tots g a ≤ tots g b := by
  induction b with
  | zero => have : a = 0 := by omega
            rw [this]; exact Nat.le_refl _
  | succ b ih =>
    by_cases e : a = b + 1
    · rw [e]; exact Nat.le_refl _
    · have := ih (by omega)
      simp only [tots]
      omega
/-- a list of strings that came in -/
def StrsAt (w : World) (a : Option Addr) (n : Nat) (g : Nat → ByteArray) : Prop := 0 < n → ∃ b off, a = some ⟨b, off, none⟩ ∧ ∀ i, i < n → w.cell? ⟨b, off + i, none⟩ = some (.string (g i))
/-- where the pieces so far have led -/
def PSt (w : World) (base b : Nat) (tx : ByteArray) (td : Nat) (cd : Int) : Prop :=
  (cd = 0 ∧ ∃ ts q S, feedP pI (lsB tx) = (ts, .ok q) ∧ td = ts.length ∧ ScAt w base b S ∧ RelS S q ∧ Inv q) ∨ (cd = 120 ∧ ∃ S, ScAt w base b S ∧ S.st = 2 ∧ S.er = 120)
theorem pst_of {w : World} {base b h0 : Nat} {v : Value} {tx : ByteArray} {ts : List Tok} {o : Out} (hf : feedP pI (lsB tx) = (ts, o)) (h : FOut w base b h0 v (errO o) o) : PSt w base b tx ts.length (errO o) := by
  cases o with
  | ok q =>
    obtain ⟨_, S, h2, h3, h4, _⟩ := h
    exact Or.inl ⟨rfl, ts, q, S, hf, rfl, h2, h3, h4⟩
  | bad B L C =>
    obtain ⟨_, h2⟩ := h
    exact Or.inr ⟨rfl, _, h2, rfl, rfl⟩
theorem feed_more {tx y : ByteArray} {ts us : List Tok} {q : PS} {o : Out} (h : feedP pI (lsB tx) = (ts, .ok q)) (h2 : feedP q (lsB y) = (us, o)) : feedP pI (lsB (tx ++ y)) = (ts ++ us, o) := by
  rw [lsB_app, feedP_app, h]
  simp only
  rw [h2]
theorem at_place {S : List UInt8} {ts : List Tok} {o : Out} (hf : feedP pI S = (ts, o)) (hs : S.length ≤ 4294967280) : ∃ n, n ≤ S.length ∧ (rdF false S 0).2.2 = (n : Int) ∧ ∀ (w : World) (base b h0 : Nat) (v : Value) (er : Int), FOut w base b h0 v er o → Calls Tryd.prog 17 #[.pointer (some ⟨b, 0, none⟩)] w fun e w' => e = .returned (.agg #[.int .i64 0, .string ⟨#[]⟩, .int .i64 n, .int .i64 n, .int .i64 ((nlN S n : Int) + 1), .int .i64 (((n - ahN S n : Nat) : Int) + 1)]) ∧ Below w.heap.size w w' := by
  cases o with
  | bad B L C =>
    obtain ⟨n, h1, h2, e1, e2, e3⟩ := place_bad hf
    refine ⟨n, h1, h2, fun w base b h0 v er h => ?_⟩
    have := at_failed base b _ w h.2 rfl
    rw [e1, e2, e3] at this
    exact this
  | ok q =>
    obtain ⟨n, h1, h2, h3, h4, h5, h6, h7, h8⟩ := place_ok hf
    refine ⟨n, h1, h2, fun w base b h0 v er h => ?_⟩
    obtain ⟨_, X, sc, r, i, _⟩ := h
    by_cases hq : 4 < q.st
    · obtain ⟨e1, e2, e3⟩ := h3 hq
      obtain ⟨_, r2, r3, r4, r5⟩ := r.hi hq
      have := at_open base b X w sc (by rw [r.st]; exact hq)
      rw [r2, r3, r4, r5, e1, e2, e3] at this
      exact this
    · have en := h4 hq
      have hnl := nlN_le S S.length
      have := at_here base b X w sc (by rw [r.st]; exact Or.inr (h8 hq)) (by rw [r.rd, h5]; omega) (by rw [r.ln, h6]; omega) (by rw [r.ah, r.rd, h7, h5]; exact ahN_le S _)
      rw [r.rd, r.ln, r.ah, h5, h6, h7] at this
      rw [en]
      exact this

end Go.Proofs.YtmgecifbimhjkaaDoor
