/-
  Layer 6: cmp.Compare of ints, byVar.
-/
import Derived.Test.YtildhkefkeeflaaNumV
import Derived.Test.YtildhkefkeeflaaWL5
import Derived.Laws.MakeOwn
import Derived.Test.YtildhkefkeeflaaWQE
import Derived.Test.YtildhkefkeeflaaWQ4
namespace Go.Proofs.Ytildhkefkeeflaa
set_option linter.unusedVariables false

/-- the number that a fraction in memory is read as -/
def RatV.val (q : RatV) : Rat := Rat.divInt (rn q.s q.X q.Y) ((rd q.Y : Nat) : Int)

theorem low_of {A D : Int} {r : Rat} (hD : D ≠ 0) (h : r = Rat.divInt A D) : Low A D r.num r.den := by
  refine ⟨hD, r.den_pos, ?_, r.reduced⟩
  have hd : (r.den : Int) ≠ 0 := by have := r.den_pos; omega
  have e : Rat.divInt r.num r.den = Rat.divInt A D := by rw [Rat.num_divInt_den]; exact h
  exact (Rat.divInt_eq_divInt_iff hd hD).1 e
theorem RatV.val_low (q : RatV) : Low (rn q.s q.X q.Y) ((rd q.Y : Nat) : Int) q.val.num q.val.den := low_of (rd_ne _) rfl
theorem low_add (p q : RatV) : Low (rn p.s p.X p.Y * (rd q.Y : Nat) + rn q.s q.X q.Y * (rd p.Y : Nat)) ((rd p.Y : Nat) * (rd q.Y : Nat)) (p.val + q.val).num (p.val + q.val).den :=
  low_of (Int.mul_ne_zero (rd_ne _) (rd_ne _)) (by unfold RatV.val; rw [Rat.divInt_add_divInt _ _ (rd_ne _) (rd_ne _)])
/-- the fraction of a number in lowest terms -/
theorem val_of (r : Rat) (a b : Option Addr) : (⟨ng r.num, a, ln (am r.num), ln (am r.num), am r.num, b, ln r.den, ln r.den, r.den⟩ : RatV).val = r := by
  unfold RatV.val
  show Rat.divInt (rn (ng r.num) (am r.num) r.den) ((rd r.den : Nat) : Int) = r
  rw [rn_nf r.den_pos, rd_nf r.den_pos, Rat.num_divInt_den]

/-! ### Forms -/
abbrev Fo := List (Int × Rat)
/-- a variable's coefficient -/
def co (x : Int) : Fo → Rat
  | [] => 0
  | p :: l => (if p.1 = x then p.2 else 0) + co x l
theorem co_append (x : Int) : ∀ (l m : Fo), co x (l ++ m) = co x l + co x m
  | [], m => by simp [co, Rat.zero_add]
  | p :: l, m => by simp only [List.cons_append, co, co_append x l m]; grind
/-- normal: variables rise, no coefficient is 0 -/
def nrm (l : Fo) : Prop := l.Pairwise (fun a b => a.1 < b.1) ∧ ∀ p ∈ l, p.2 ≠ 0
theorem co_zero {x : Int} : ∀ {l : Fo}, (∀ p ∈ l, p.1 ≠ x) → co x l = 0
  | [], _ => rfl
  | p :: l, h => by
    simp only [co]
    rw [if_neg (h p List.mem_cons_self), co_zero fun q hq => h q (List.mem_cons_of_mem _ hq)]
    exact Rat.add_zero _
theorem nrm.tail {p : Int × Rat} {l : Fo} (h : nrm (p :: l)) : nrm l := ⟨(List.pairwise_cons.1 h.1).2, fun q hq => h.2 q (List.mem_cons_of_mem _ hq)⟩
theorem nrm.head {p : Int × Rat} {l : Fo} (h : nrm (p :: l)) : ∀ q ∈ l, p.1 < q.1 := (List.pairwise_cons.1 h.1).1
theorem nrm.nil : nrm [] := ⟨List.Pairwise.nil, fun p hp => absurd hp (by simp)⟩
theorem nrm.co_head {p : Int × Rat} {l : Fo} (h : nrm (p :: l)) : co p.1 (p :: l) = p.2 := by
  simp only [co, if_true]
  rw [co_zero fun q hq => by have := h.head q hq; omega]
  exact Rat.add_zero _
theorem nrm.below {p : Int × Rat} {l : Fo} {x : Int} (h : nrm (p :: l)) (hx : x < p.1) : co x (p :: l) = 0 :=
  co_zero fun q hq => by
    rcases List.mem_cons.1 hq with rfl | hq
    · omega
    · have := h.head q hq; omega
/-- a normal form is told by its coefficients -/
theorem nrm.uniq : ∀ {l m : Fo}, nrm l → nrm m → (∀ x, co x l = co x m) → l = m
  | [], [], _, _, _ => rfl
  | [], q :: m, _, hm, h => by
    have := h q.1
    rw [hm.co_head] at this
    exact absurd this.symm (hm.2 q List.mem_cons_self)
  | p :: l, [], hl, _, h => by
    have := h p.1
    rw [hl.co_head] at this
    exact absurd this (hl.2 p List.mem_cons_self)
  | p :: l, q :: m, hl, hm, h => by
    have e1 : p.1 = q.1 := by
      rcases Int.lt_trichotomy p.1 q.1 with h1 | h1 | h1
      · have := h p.1
        rw [hl.co_head, hm.below h1] at this
        exact absurd this (hl.2 p List.mem_cons_self)
      · exact h1
      · have := h q.1
        rw [hm.co_head, hl.below h1] at this
        exact absurd this.symm (hm.2 q List.mem_cons_self)
    have e2 : p.2 = q.2 := by
      have := h p.1
      rw [hl.co_head, e1, hm.co_head] at this
      exact this
    have e : p = q := Prod.ext e1 e2
    subst e
    rw [nrm.uniq hl.tail hm.tail fun x => by
      have := h x
      simp only [co] at this
      grind]

/-- two normal forms, merged -/
def mrg : Fo → Fo → Fo
  | [], m => m
  | p :: l, [] => p :: l
  | p :: l, q :: m => if p.1 < q.1 then p :: mrg l (q :: m) else if q.1 < p.1 then q :: mrg (p :: l) m else if p.2 + q.2 = 0 then mrg l m else (p.1, p.2 + q.2) :: mrg l m
termination_by l m => l.length + m.length
theorem co_mrg (x : Int) : ∀ (l m : Fo), co x (mrg l m) = co x l + co x m
  | [], m => by rw [mrg]; simp only [co]; rw [Rat.zero_add]
  | p :: l, [] => by rw [mrg]; simp only [co]; grind
  | p :: l, q :: m => by
    rw [mrg]
    split
    · rw [co, co_mrg x l (q :: m)]
      simp only [co]; grind
    · split
      · rw [co, co_mrg x (p :: l) m]
        simp only [co]; grind
      · have e : p.1 = q.1 := by omega
        split
        · rw [co_mrg x l m]
          simp only [co, e]; grind
        · rw [co, co_mrg x l m]
          simp only [co, e]; grind
termination_by l m => l.length + m.length
theorem mrg_low {z : Int} : ∀ (l m : Fo), (∀ p ∈ l, z < p.1) → (∀ p ∈ m, z < p.1) → ∀ p ∈ mrg l m, z < p.1
  | [], m, _, hm => by rw [mrg]; exact hm
  | p :: l, [], hl, _ => by rw [mrg]; exact hl
  | p :: l, q :: m, hl, hm => by
    have hl' : ∀ r ∈ l, z < r.1 := fun r hr => hl r (List.mem_cons_of_mem _ hr)
    have hm' : ∀ r ∈ m, z < r.1 := fun r hr => hm r (List.mem_cons_of_mem _ hr)
    rw [mrg]
    split
    · intro r hr
      rcases List.mem_cons.1 hr with rfl | hr
      · exact hl _ List.mem_cons_self
      · exact mrg_low l (q :: m) hl' hm r hr
    · split
      · intro r hr
        rcases List.mem_cons.1 hr with rfl | hr
        · exact hm _ List.mem_cons_self
        · exact mrg_low (p :: l) m hl hm' r hr
      · split
        · exact mrg_low l m hl' hm'
        · intro r hr
          rcases List.mem_cons.1 hr with rfl | hr
          · exact hl p List.mem_cons_self
          · exact mrg_low l m hl' hm' r hr
termination_by l m => l.length + m.length
theorem nrm.cons {p : Int × Rat} {l : Fo} (h : nrm l) (h1 : ∀ q ∈ l, p.1 < q.1) (h2 : p.2 ≠ 0) : nrm (p :: l) :=
  ⟨List.pairwise_cons.2 ⟨h1, h.1⟩, fun q hq => by
    rcases List.mem_cons.1 hq with rfl | hq
    · exact h2
    · exact h.2 q hq⟩
theorem nrm_mrg : ∀ (l m : Fo), nrm l → nrm m → nrm (mrg l m)
  | [], m, _, hm => by rw [mrg]; exact hm
  | p :: l, [], hl, _ => by rw [mrg]; exact hl
  | p :: l, q :: m, hl, hm => by
    rw [mrg]
    split
    · rename_i h
      refine (nrm_mrg l (q :: m) hl.tail hm).cons (mrg_low _ _ hl.head fun r hr => ?_) (hl.2 p List.mem_cons_self)
      rcases List.mem_cons.1 hr with rfl | hr
      · exact h
      · have := hm.head r hr; omega
    · split
      · rename_i h1 h
        refine (nrm_mrg (p :: l) m hl hm.tail).cons (mrg_low _ _ (fun r hr => ?_) hm.head) (hm.2 q List.mem_cons_self)
        rcases List.mem_cons.1 hr with rfl | hr
        · exact h
        · have := hl.head r hr; omega
      · rename_i h1 h2
        have e : p.1 = q.1 := by omega
        split
        · exact nrm_mrg l m hl.tail hm.tail
        · rename_i h3
          exact (nrm_mrg l m hl.tail hm.tail).cons (mrg_low _ _ hl.head (fun r hr => by show p.1 < r.1; rw [e]; exact hm.head r hr)) h3
termination_by l m => l.length + m.length

/-! ### How long -/
/-- how long a number is -/
def wt (r : Rat) : Nat := ln (am r.num) + ln r.den + 1
def wts : Fo → Nat
  | [] => 0
  | p :: l => wt p.2 + wts l
theorem wts_append : ∀ (l m : Fo), wts (l ++ m) = wts l + wts m
  | [], m => by simp [wts]
  | p :: l, m => by simp only [List.cons_append, wts, wts_append l m]; omega
theorem co_le (x : Int) : ∀ (l : Fo), ∃ (A : Int) (D : Nat), 0 < D ∧ co x l = Rat.divInt A (D : Nat) ∧ am A ≤ BB ^ wts l ∧ D ≤ BB ^ wts l
  | [] => ⟨0, 1, Nat.one_pos, by rw [Rat.zero_divInt]; rfl, Nat.zero_le _, Nat.le_refl _⟩
  | p :: l => by
    obtain ⟨A, D, hD, e, h1, h2⟩ := co_le x l
    have hB : ∀ {i j : Nat}, i ≤ j → BB ^ i ≤ BB ^ j := fun h => pow_mono h
    simp only [co, wts]
    split
    · obtain ⟨r, hr⟩ : ∃ r, p.2 = r := ⟨_, rfl⟩
      rw [hr]
      have hd := r.den_pos
      refine ⟨r.num * (D : Nat) + A * (r.den : Nat), r.den * D, Nat.mul_pos hd hD, ?_, ?_⟩
      · rw [e]
        have := Rat.divInt_add_divInt r.num A (d₁ := (r.den : Int)) (d₂ := ((D : Nat) : Int)) (by omega) (by omega)
        rw [Rat.num_divInt_den] at this
        rw [this, Int.natCast_mul]
      · have k1 : am r.num ≤ BB ^ ln (am r.num) := Nat.le_of_lt (ln_lt _)
        have k2 : r.den ≤ BB ^ ln r.den := Nat.le_of_lt (ln_lt _)
        have p1 : r.den * D ≤ BB ^ (ln r.den + wts l) := by rw [Nat.pow_add]; exact Nat.mul_le_mul k2 h2
        have p2 : am (r.num * (D : Nat)) ≤ BB ^ (ln (am r.num) + wts l) := by rw [am_mul, Nat.pow_add]; exact Nat.mul_le_mul k1 h2
        have p3 : am (A * (r.den : Nat)) ≤ BB ^ (wts l + ln r.den) := by rw [am_mul, Nat.pow_add]; exact Nat.mul_le_mul h1 k2
        have q1 : BB ^ (ln r.den + wts l) ≤ BB ^ (ln (am r.num) + ln r.den + wts l) := hB (by omega)
        have q2 : BB ^ (ln (am r.num) + wts l) ≤ BB ^ (ln (am r.num) + ln r.den + wts l) := hB (by omega)
        have q3 : BB ^ (wts l + ln r.den) ≤ BB ^ (ln (am r.num) + ln r.den + wts l) := hB (by omega)
        have p6 : BB ^ (wt r + wts l) = BB ^ (ln (am r.num) + ln r.den + wts l) * BB := by rw [← Nat.pow_succ]; congr 1; unfold wt; omega
        have p7 : am (r.num * (D : Nat) + A * (r.den : Nat)) ≤ am (r.num * (D : Nat)) + am (A * (r.den : Nat)) := Int.natAbs_add_le _ _
        rw [p6]
        generalize BB ^ (ln (am r.num) + ln r.den + wts l) = T at *
        have p8 : T * 2 ≤ T * BB := Nat.mul_le_mul_left _ (by rw [BB_eq]; omega)
        constructor <;> omega
    · refine ⟨A, D, hD, by rw [e, Rat.zero_add], Nat.le_trans h1 (hB (by omega)), Nat.le_trans h2 (hB (by omega))⟩
/-- its numerator and its denominator are no longer than that -/
def sz (N : Nat) (r : Rat) : Prop := ln (am r.num) ≤ N ∧ ln r.den ≤ N
theorem co_sz (x : Int) (l : Fo) : sz (wts l + 1) (co x l) := by
  obtain ⟨A, D, hD, e, h1, h2⟩ := co_le x l
  have hl : BB ^ wts l < BB ^ (wts l + 1) := by
    rw [Nat.pow_succ]
    have : 0 < BB ^ wts l := by rw [BB_eq]; exact Nat.pow_pos (by omega)
    have h3 : BB ^ wts l * 2 ≤ BB ^ wts l * BB := Nat.mul_le_mul_left _ (by rw [BB_eq]; omega)
    omega
  exact ln1 (low_of (by omega) e) (Nat.lt_of_le_of_lt h1 hl) (by show am ((D : Nat) : Int) < _; exact Nat.lt_of_le_of_lt h2 hl) (Nat.le_refl _) (Nat.le_refl _)
theorem sz.mono {N M : Nat} {r : Rat} (h : sz N r) (hM : N ≤ M) : sz M r := ⟨Nat.le_trans h.1 hM, Nat.le_trans h.2 hM⟩
/-- a coefficient of a normal form is one of its own -/
theorem nrm.co_mem : ∀ {l : Fo} {p : Int × Rat}, nrm l → p ∈ l → co p.1 l = p.2
  | [], p, _, hp => absurd hp (by simp)
  | q :: l, p, h, hp => by
    rcases List.mem_cons.1 hp with rfl | hp
    · exact h.co_head
    · have h1 := h.head p hp
      simp only [co]
      rw [if_neg (by omega), Rat.zero_add]
      exact h.tail.co_mem hp
end Go.Proofs.Ytildhkefkeeflaa

namespace Go.Proofs.Ytildhkefkeeflaa
open Go.RowKit
set_option linter.unusedVariables false
set_option linter.unusedSimpArgs false

/-- a part of a form -/
abbrev Mo := Int × RatV
/-- what a form in memory is read as -/
def fo (L : List Mo) : Fo := L.map fun p => (p.1, p.2.val)
theorem fo_append (L M : List Mo) : fo (L ++ M) = fo L ++ fo M := List.map_append
theorem fo_cons (p : Mo) (L : List Mo) : fo (p :: L) = (p.1, p.2.val) :: fo L := rfl
theorem fo_length (L : List Mo) : (fo L).length = L.length := List.length_map _

/-- its four cells -/
def cells4 (p : Mo) : List Value := [.int .i64 p.1, .bool p.2.s, .slice p.2.a p.2.n p.2.c, .slice p.2.b p.2.m p.2.e]
def cellsF : List Mo → List Value
  | [] => []
  | p :: L => cells4 p ++ cellsF L
theorem cellsF_append : ∀ (L M : List Mo), cellsF (L ++ M) = cellsF L ++ cellsF M
  | [], M => rfl
  | p :: L, M => by simp only [List.cons_append, cellsF, cellsF_append L M, List.append_assoc]
theorem cellsF_length : ∀ (L : List Mo), (cellsF L).length = L.length * 4
  | [] => rfl
  | p :: L => by simp only [cellsF, cells4, List.length_append, cellsF_length L, List.length_cons, List.length_nil]; omega
theorem cellsF_at : ∀ (L : List Mo) (i j : Nat) (p : Mo), L[i]? = some p → j < 4 → (cellsF L)[i * 4 + j]? = (cells4 p)[j]?
  | [], i, j, p, h, _ => by simp at h
  | q :: L, 0, j, p, h, hj => by
    simp only [List.getElem?_cons_zero, Option.some.injEq] at h
    subst h
    rw [cellsF, List.getElem?_append_left (by simp only [cells4, List.length_cons, List.length_nil]; omega), Nat.zero_mul, Nat.zero_add]
  | q :: L, i + 1, j, p, h, hj => by
    rw [List.getElem?_cons_succ] at h
    rw [cellsF, List.getElem?_append_right (by simp only [cells4, List.length_cons, List.length_nil]; omega)]
    rw [show (i + 1) * 4 + j - (cells4 q).length = i * 4 + j by simp only [cells4, List.length_cons, List.length_nil]; omega]
    exact cellsF_at L i j p h hj
theorem cells4_one (p : Mo) : ∀ u ∈ cells4 p, u.oneCell' = true := by
  intro u hu
  simp only [cells4, List.mem_cons, List.not_mem_nil, or_false] at hu
  rcases hu with rfl | rfl | rfl | rfl <;> rfl
theorem cellsF_one : ∀ (L : List Mo), ∀ u ∈ cellsF L, u.oneCell' = true
  | [], u, hu => by simp [cellsF] at hu
  | p :: L, u, hu => by
    simp only [cellsF, List.mem_append] at hu
    rcases hu with h | h
    · exact cells4_one p u h
    · exact cellsF_one L u h

/-- such a form lies in W -/
def FAt (W : World) (a : Option Addr) (L : List Mo) : Prop :=
  L ≠ [] → ∃ b off, a = some ⟨b, off, none⟩ ∧ b < W.heap.size ∧ ∀ i p, L[i]? = some p → MonoAt W b (off + i * 4) p.1 p.2
theorem MonoAt.later {w w' : World} {b off : Nat} {v : Int} {q : RatV} (h : MonoAt w b off v q) (hb : Below w.heap.size w w') : MonoAt w' b off v q := ⟨below_cell hb h.1, h.2.later hb⟩
theorem FAt.later {w w' : World} {a : Option Addr} {L : List Mo} (h : FAt w a L) (hb : Below w.heap.size w w') : FAt w' a L := fun hn => by
  obtain ⟨b, off, e, hl, hc⟩ := h hn
  exact ⟨b, off, e, Nat.lt_of_lt_of_le hl hb.size, fun i p hi => (hc i p hi).later hb⟩
theorem FAt.nil (w : World) (a : Option Addr) : FAt w a [] := fun h => absurd rfl h
theorem FAt.head {w : World} {a : Option Addr} {p : Mo} {L : List Mo} (h : FAt w a (p :: L)) : ∃ b off, a = some ⟨b, off, none⟩ ∧ b < w.heap.size ∧ MonoAt w b off p.1 p.2 ∧ FAt w (some ⟨b, off + 4, none⟩) L := by
  obtain ⟨b, off, e, hl, hc⟩ := h (by simp)
  refine ⟨b, off, e, hl, by have := hc 0 p rfl; rw [Nat.zero_mul, Nat.add_zero] at this; exact this, fun _ => ⟨b, off + 4, rfl, hl, fun i q hi => ?_⟩⟩
  have := hc (i + 1) q (by rw [List.getElem?_cons_succ]; exact hi)
  rw [show off + 4 + i * 4 = off + (i + 1) * 4 by omega]
  exact this
/-- its cells, in a row -/
theorem FAt.cells {w : World} {b off : Nat} {L : List Mo} (h : FAt w (some ⟨b, off, none⟩) L) : ∀ j u, (cellsF L)[j]? = some u → w.cell? ((⟨b, off, none⟩ : Addr).add j) = some u := by
  intro j u hu
  have hadd : (⟨b, off, none⟩ : Addr).add j = ⟨b, off + j, none⟩ := by unfold Addr.add; split <;> simp_all
  rw [hadd]
  have hj : j < L.length * 4 := by
    have := (List.getElem?_eq_some_iff.1 hu).1
    rwa [cellsF_length] at this
  have hi : j / 4 < L.length := by omega
  obtain ⟨b', off', e, hl, hc⟩ := h (by intro e; rw [e] at hi; simp at hi)
  obtain ⟨rfl, rfl⟩ : b = b' ∧ off = off' := by simpa using e
  have hp : L[j / 4]? = some L[j / 4] := List.getElem?_eq_getElem hi
  obtain ⟨c0, c1, c2, c3⟩ := hc _ _ hp
  have h4 := cellsF_at L (j / 4) (j % 4) _ hp (by omega)
  rw [show j / 4 * 4 + j % 4 = j by omega, hu] at h4
  obtain ⟨k, hk⟩ : ∃ k, j % 4 = k := ⟨_, rfl⟩
  have hjk : off + j = off + j / 4 * 4 + k := by omega
  rw [hk] at h4
  rw [hjk]
  match k, (show k < 4 by omega) with
  | 0, _ => simp only [cells4, List.getElem?_cons_zero] at h4; rw [h4]; exact c0
  | 1, _ => simp only [cells4, List.getElem?_cons_zero, List.getElem?_cons_succ] at h4; rw [h4]; exact c1
  | 2, _ => simp only [cells4, List.getElem?_cons_zero, List.getElem?_cons_succ] at h4; rw [h4]; exact c2
  | 3, _ => simp only [cells4, List.getElem?_cons_zero, List.getElem?_cons_succ] at h4; rw [h4]; exact c3
/-- a row of such cells is a form -/
theorem own_form {w : World} {base : Nat} {e : TypeId} {v : Value} {L : List Mo} (h : w.ownsRow base e 4 v L.length (cellsF L)) : ∃ a cap, v = .slice a L.length cap ∧ L.length ≤ cap ∧ cap ≤ maxLen ∧ FAt w a L := by
  rcases h.2 with ⟨rfl, h0⟩ | ⟨g, cap, cur, rfl, hb, hg, hc, hm, _, _⟩
  · exact ⟨none, 0, by rw [h0], by omega, by simp [maxLen], fun hn => absurd (List.eq_nil_of_length_eq_zero h0) hn⟩
  · refine ⟨_, cap, rfl, hc, hm, fun hn => ⟨g, 0, rfl, (Array.getElem?_eq_some_iff.1 hg).1, fun i p hi => ?_⟩⟩
    have hil : i < L.length := (List.getElem?_eq_some_iff.1 hi).1
    have k : ∀ j, j < 4 → w.cell? ⟨g, i * 4 + j, none⟩ = (cells4 p)[j]? := fun j hj => by
      have k1 := h.cellAt (i * 4 + j) (by omega)
      rw [cellsF_at L i j p hi hj] at k1
      exact k1
    rw [Nat.zero_add]
    exact ⟨k 0 (by omega), k 1 (by omega), k 2 (by omega), k 3 (by omega)⟩

/-- an entry of a form: its numbers lie in memory, in lowest terms -/
structure Ent (w : World) (p : Mo) : Prop where
  ok : p.2.ok w
  low : p.2.low
theorem Ent.later {w w' : World} {p : Mo} (h : Ent w p) (hb : Below w.heap.size w w') : Ent w' p := ⟨h.ok.later hb, h.low⟩
/-- an entry of a row that grows -/
structure Grw (vo : Value) (wr : World) (p : Mo) : Prop where
  ok : p.2.ok wr
  low : p.2.low
  off : ∀ b, vo.ownBlock = some b → p.2.off b
theorem Grw.ent {vo : Value} {wr : World} {p : Mo} (h : Grw vo wr p) : Ent wr p := ⟨h.ok, h.low⟩
theorem Grw.later {vo : Value} {wr w' : World} {p : Mo} (h : Grw vo wr p) (hb : Below wr.heap.size wr w') : Grw vo w' p := ⟨h.ok.later hb, h.low, h.off⟩
theorem Grw.grown {vo : Value} {wB w1 : World} {p : Mo} (h : Grw vo wB p) (hg : wB.grownBy w1 vo.ownBlock) {gb j cap : Nat} (hat : vo.ownBlock = some gb ∨ gb = wB.heap.size) : Grw (.slice (some ⟨gb, 0, none⟩) j cap) w1 p := by
  refine ⟨h.ok.grown hg h.off, h.low, fun b hb => ?_⟩
  have : gb = b := by simpa [Value.ownBlock] using hb
  subst this
  rcases hat with h1 | h1
  · exact h.off _ h1
  · exact h.ok.off (by omega)
/-- an entry that was there before the row was made -/
theorem Ent.grw {w wr : World} {vo : Value} {p : Mo} (h : Ent w p) (hb : Below w.heap.size w wr) (hrow : ∀ b, vo.ownBlock = some b → w.heap.size ≤ b) : Grw vo wr p := ⟨h.ok.later hb, h.low, fun b e => h.ok.off (hrow b e)⟩

/-- a fraction in lowest terms is what it is read as -/
theorem low_val {q : RatV} (h : q.low) : q = RatV.of q.val.num q.val.den q.a q.b := by
  have hY := h.pos
  have h1 := (Low.self (Z := sg q.s q.X) hY (by rw [am_sg]; exact h.cop))
  have h2 := q.val_low
  rw [rn_of (by omega), rd_of (by omega)] at h2
  obtain ⟨e1, e2⟩ := h2.uniq h1 rfl
  obtain ⟨s, a, n, c, X, b, m, e, Y⟩ := q
  have k1 := h.hs
  have k2 := h.hn
  have k3 := h.hc
  have k4 := h.hm
  have k5 := h.he
  simp only at *
  unfold RatV.of
  rw [e1, e2, k1, am_sg]
  subst k2 k3 k4 k5
  rfl
theorem val_ofR (r : Rat) (a b : Option Addr) : (RatV.of r.num r.den a b).val = r := val_of r a b
theorem ofR_low (r : Rat) (a b : Option Addr) : (RatV.of r.num r.den a b).low := RatV.of_low r.den_pos r.reduced

/-! ### Slices of forms -/
theorem info_Mono : (Try.prog.info? 38).map (fun i => (i.zero, i.size, i.bytes)) = some (some (.agg #[.int .i64 0, .bool false, .slice none 0 0, .slice none 0 0]), 4, 64) := by kernel_rfl
theorem A_elem_M (w : World) : (sizeOf (Try.prog.elem 22)).run Try.prog w = .ok 4 w := by kernel_rfl
set_option maxRecDepth 30000 in
theorem sl_restM (b off len cap h : Nat) (hl : h ≤ len) (hc : len ≤ cap) : ∃ a', (∀ w, (Instr.slice 22 (.slice (some ⟨b, off, none⟩) len cap) (some (.int .i64 (h : Int))) none none).run Try.prog w = .ok (.slice a' (len - h) (cap - h)) w) ∧ a' ≠ none ∧ (h < len → a' = some ⟨b, off + h * 4, none⟩) := by
  refine ⟨if cap = h then some ⟨b, off, none⟩ else (some (⟨b, off, none⟩ : Addr)).map (·.add (h * 4)), fun w => ?_, ?_, fun hlt => ?_⟩
  · rw [run_slice_l (P := Try.prog) w 22 _ len cap Try.underlying22 .i64 _ (by omega) (by omega)]
    rw [A_elem_M]
    simp [Result.andThen, sliced]
  · split <;> simp
  · rw [if_neg (by omega)]
    unfold Addr.add
    simp only [Option.map]
    split
    · simp_all
    · rfl
theorem A_elem_F (w : World) : (sizeOf (Try.prog.elem 23)).run Try.prog w = .ok 4 w := by kernel_rfl
set_option maxRecDepth 30000 in
theorem sl_headF (b off len cap h : Nat) (hc : h ≤ cap) (w : World) :
    (Instr.slice 23 (.slice (some ⟨b, off, none⟩) len cap) none (some (.int .i64 (h : Int))) none).run Try.prog w = .ok (.slice (some ⟨b, off, none⟩) h cap) w := by
  rw [run_slice_h (P := Try.prog) w 23 _ len cap Try.underlying23 .i64 _ (by omega) (by omega)]
  rw [A_elem_F]
  simp [Result.andThen, sliced, Addr.add]
set_option maxRecDepth 30000 in
theorem sl_restF (b off len cap h : Nat) (hl : h ≤ len) (hc : len ≤ cap) : ∃ a', (∀ w, (Instr.slice 23 (.slice (some ⟨b, off, none⟩) len cap) (some (.int .i64 (h : Int))) none none).run Try.prog w = .ok (.slice a' (len - h) (cap - h)) w) ∧ a' ≠ none ∧ (h < len → a' = some ⟨b, off + h * 4, none⟩) := by
  refine ⟨if cap = h then some ⟨b, off, none⟩ else (some (⟨b, off, none⟩ : Addr)).map (·.add (h * 4)), fun w => ?_, ?_, fun hlt => ?_⟩
  · rw [run_slice_l (P := Try.prog) w 23 _ len cap Try.underlying23 .i64 _ (by omega) (by omega)]
    rw [A_elem_F]
    simp [Result.andThen, sliced]
  · split <;> simp
  · rw [if_neg (by omega)]
    unfold Addr.add
    simp only [Option.map]
    split
    · simp_all
    · rfl
end Go.Proofs.Ytildhkefkeeflaa

namespace Go.Proofs.Ytildhkefkeeflaa
open Go.RowKit
set_option linter.unusedVariables false
set_option linter.unusedSimpArgs false

/-- the order of two numbers -/
def ord (x y : Int) : Int := if x < y then -1 else if y < x then 1 else 0

set_option maxRecDepth 30000 in
theorem isNaN_is (x : Int) (w : World) : Calls Try.prog 55 #[.int .i64 x] w fun e w' => e = .returned (.bool false) ∧ w' = w := by
  go_enter Try.func55, Try.ntmps55
  go_wp2
  go_ret
  exact ⟨by simp, rfl⟩
set_option maxRecDepth 30000 in
set_option maxHeartbeats 1000000 in
theorem Compare_is (x y : Int) (w : World) : Calls Try.prog 37 #[.int .i64 x, .int .i64 y] w fun e w' => e = .returned (.int .i64 (ord x y)) ∧ w' = w := by
  have P1 := hide' (fun w' => isNaN_is x w')
  have P2 := hide' (fun w' => isNaN_is y w')
  unfold ord
  by_cases h1 : x < y
  · rw [if_pos h1]
    go_enter Try.func37, Try.ntmps37
    go_wp2_with fail
    refine (P1.out _).mono ?_
    rintro e w1 ⟨rfl, rfl⟩
    go_wp2_with fail
    refine (P2.out _).mono ?_
    rintro e w1 ⟨rfl, rfl⟩
    go_wp2
    go_ret
    exact ⟨rfl, rfl⟩
  · rw [if_neg h1]
    by_cases h2 : y < x
    · rw [if_pos h2]
      go_enter Try.func37, Try.ntmps37
      go_wp2_with fail
      refine (P1.out _).mono ?_
      rintro e w1 ⟨rfl, rfl⟩
      go_wp2_with fail
      refine (P2.out _).mono ?_
      rintro e w1 ⟨rfl, rfl⟩
      go_wp2
      go_ret
      exact ⟨rfl, rfl⟩
    · rw [if_neg h2]
      go_enter Try.func37, Try.ntmps37
      go_wp2_with fail
      refine (P1.out _).mono ?_
      rintro e w1 ⟨rfl, rfl⟩
      go_wp2_with fail
      refine (P2.out _).mono ?_
      rintro e w1 ⟨rfl, rfl⟩
      go_wp2
      go_ret
      exact ⟨rfl, rfl⟩
set_option maxRecDepth 30000 in
set_option maxHeartbeats 1000000 in
theorem byVar_is (x y : Int) (s : Bool) (a : Option Addr) (n c : Nat) (b : Option Addr) (m d : Nat) (s' : Bool) (a' : Option Addr) (n' c' : Nat) (b' : Option Addr) (m' d' : Nat) (w : World) :
    Calls Try.prog 25 #[.agg #[.int .i64 x, .bool s, .slice a n c, .slice b m d], .agg #[.int .i64 y, .bool s', .slice a' n' c', .slice b' m' d']] w fun e w' => e = .returned (.int .i64 (ord x y)) ∧ Below w.heap.size w w' := by
  have P1 := hide' (fun w' => Compare_is x y w')
  go_enter Try.func25, Try.ntmps25
  go_wp2_with fail
  refine (P1.out _).mono ?_
  rintro e w1 ⟨rfl, rfl⟩
  go_wp2
  go_ret
  exact ⟨rfl, ((Below.refl _ _).alloc (Nat.le_refl _) _).alloc (by simp only [World.size_alloc]; omega) _⟩
end Go.Proofs.Ytildhkefkeeflaa
