/-
  All.
-/
import Derived.Test.YtibeiggedmabkaaDoorTS9
namespace Go.Proofs.YtibeiggedmabkaaDoor
open Go.RowKit
set_option linter.unusedVariables false
set_option linter.unusedSimpArgs false

/-- nothing has been read -/
def pI : PS := ⟨3, [], 0, 0, 0, 0, 0, 0⟩
theorem Inv_pI : Inv pI := ⟨by decide, rfl, Nat.le_refl _, fun c => absurd c (by decide), fun c => absurd c (by decide)⟩
def sI : Scan := ⟨3, .slice none 0 0, [], 0, 0, 0, 0, 0, 0, 0, 0⟩
theorem RelS_I : RelS sI pI := ⟨rfl, rfl, rfl, rfl, fun _ => rfl, fun c => absurd c (by decide)⟩
/-- what All tells of a text's bytes, and its error -/
def allP (bs : List UInt8) : List Tok × Int :=
  match feedP pI bs with
  | (ts, .bad _ _ _) => (ts, 120)
  | (ts, .ok q) => (ts ++ (endP q).1, (endP q).2)
/-- where All's error stands: its place, its line, its column -/
def allE (bs : List UInt8) : Int × Int × Int :=
  match feedP pI bs with
  | (_, .bad B L C) => (B, L, C)
  | (_, .ok q) => (q.bB, q.bL, q.bC)
theorem own_mono {w : World} {b1 b2 : Nat} {e : TypeId} {z : Nat} {v : Value} {n : Nat} {x : List Value} (h : w.ownsRow b1 e z v n x) (hb : b2 ≤ b1) : w.ownsRow b2 e z v n x := by
  refine ⟨h.1, ?_⟩
  rcases h.2 with h0 | ⟨g, cap, cur, hv, hg, rest⟩
  · exact Or.inl h0
  · exact Or.inr ⟨g, cap, cur, hv, by omega, rest⟩
theorem end_len (q : PS) : (endP q).1.length ≤ 1 := by
  unfold endP
  repeat' split
  all_goals simp
theorem charP_lens {p q : PS} (hi : Inv p) {r : Nat} {u : UInt8} {ts : List Tok} (h : charP p r [u] = (ts, .ok q)) : (p.buf.length ≤ p.rd → q.buf.length ≤ q.rd) ∧ (p.ln ≤ p.rd → q.ln ≤ q.rd) ∧ ts.length ≤ 2 := by
  have k := hi.char (us := [u]) (Nat.le_refl 1) h
  have hb := beg_facts hi r
  have ht := told_len p r
  have hbl := fun c => beg_len hi r c
  have hq : q.rd = p.rd + 1 := k.2
  unfold charP at h
  generalize (p.cut r).beg = P at h hb hbl
  generalize nxt p.st r = x at h hb
  by_cases h24 : x = 24
  · rw [if_pos h24] at h; injection h with _ h; cases h
  rw [if_neg h24] at h
  by_cases h25 : x = 25
  · rw [if_pos h25] at h; injection h with _ h; cases h
  rw [if_neg h25] at h
  have nb : ∀ Q : PS, Q.buf.length ≤ P.buf.length + 1 → Q.nrm.buf.length ≤ P.buf.length + 1 := fun Q c => by
    unfold PS.nrm
    split
    · simp
    · exact c
  have hP := hb.2.1
  by_cases h5 : x = 5 ∨ x = 6 ∨ x = 9
  · rw [if_pos h5] at h
    injection h with h1 h2
    injection h2 with h2
    refine ⟨fun c => ?_, fun c => ?_, ?_⟩
    · have := nb { P.add x [u] with st := 3 } (by show (P.buf ++ [u]).length ≤ _; simp)
      rw [h2] at this
      have := hbl c; omega
    · rw [hq, ← h2, nrm_ln]; show P.ln ≤ _; omega
    · rw [← h1, List.length_append]; simp only [List.length_cons, List.length_nil]; omega
  rw [if_neg h5] at h
  by_cases h10 : r = 10
  · rw [if_pos h10] at h
    injection h with h1 h2
    injection h2 with h2
    refine ⟨fun c => ?_, fun c => ?_, by rw [← h1]; omega⟩
    · have := nb { P.add x [u] with ln := p.ln + 1, ah := p.rd + 1 } (by show (P.buf ++ [u]).length ≤ _; simp)
      have e : (PS.nrm { P.add x [u] with ln := p.ln + 1, ah := p.rd + 1 }) = q := h2
      rw [e] at this
      have := hbl c; omega
    · rw [hq, ← h2, nrm_ln]; show p.ln + 1 ≤ _; omega
  · rw [if_neg h10] at h
    injection h with h1 h2
    injection h2 with h2
    refine ⟨fun c => ?_, fun c => ?_, by rw [← h1]; omega⟩
    · have := nb (P.add x [u]) (by show (P.buf ++ [u]).length ≤ _; simp)
      rw [h2] at this
      have := hbl c; omega
    · rw [hq, ← h2, nrm_ln]; show P.ln ≤ _; omega
theorem feed_rd {p : PS} (bs : List UInt8) (hi : Inv p) {ts : List Tok} {q : PS} (h : feedP p bs = (ts, .ok q)) : Inv q ∧ q.rd = p.rd + bs.length ∧ (p.buf.length ≤ p.rd → q.buf.length ≤ q.rd) ∧ (p.ln ≤ p.rd → q.ln ≤ q.rd) ∧ ts.length ≤ bs.length * 2 := by
  induction bs generalizing p ts q with
  | nil =>
    simp only [feedP] at h
    injection h with h1 h2
    injection h2 with h2
    subst h2
    subst h1
    exact ⟨hi, rfl, id, id, Nat.le_refl _⟩
  | cons u us ih =>
    simp only [feedP] at h
    rcases hc : charP p u.toNat [u] with ⟨t1, o1⟩
    rw [hc] at h
    cases o1 with
    | bad B L C => simp only at h; injection h with _ h; cases h
    | ok q1 =>
      simp only at h
      have k1 := hi.char (us := [u]) (Nat.le_refl 1) hc
      have f1 := beg_facts hi u.toNat
      rcases hf : feedP q1 us with ⟨t2, o2⟩
      rw [hf] at h
      simp only at h
      injection h with h1 h2
      subst h2
      obtain ⟨g1, g2, g3, g4, g5⟩ := ih k1.1 hf
      have hd := charP_lens hi hc
      refine ⟨g1, by rw [g2, k1.2]; simp only [List.length_cons, List.length_nil]; omega, fun c => g3 (hd.1 c), fun c => g4 (hd.2.1 c), ?_⟩
      rw [← h1, List.length_append, List.length_cons]
      have := hd.2.2
      omega

end Go.Proofs.YtibeiggedmabkaaDoor
