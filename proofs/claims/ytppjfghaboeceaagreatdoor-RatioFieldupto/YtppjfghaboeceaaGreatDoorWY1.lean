/-
  Layer 3's functions over rational numbers: what they answer, as numbers.
-/
import Derived.Test.YtppjfghaboeceaaGreatDoorNumR
import Derived.Test.YtppjfghaboeceaaGreatDoorWQ4
import Derived.Test.YtppjfghaboeceaaGreatDoorWQ5
import Derived.Test.YtppjfghaboeceaaGreatDoorWQC
import Derived.Test.YtppjfghaboeceaaGreatDoorWQN
import Derived.Test.YtppjfghaboeceaaGreatDoorWQA
namespace Go.Proofs.YtppjfghaboeceaaGreatDoor
open Go.RowKit
set_option linter.unusedVariables false
set_option linter.unusedSimpArgs false

theorem RatV.ok.on {w w' : World} {q : RatV} (h : q.ok w) (hb : Below w.heap.size w w') : q.ok w' := ⟨h.1.later hb, h.2.1, h.2.2.1, h.2.2.2.1.later hb, h.2.2.2.2.1, h.2.2.2.2.2⟩
/-- a copy of it, elsewhere -/
def twR (a : RatV) (p q : Option Addr) : RatV := ⟨a.s, p, a.n, a.n, a.X, q, a.m, a.m, a.Y⟩
/-- a number, normal -/
def nR (r : Rat) (p q : Option Addr) : RatV := ⟨ng r.num, p, ln (am r.num), ln (am r.num), am r.num, q, ln r.den, ln r.den, r.den⟩
theorem nR_val (r : Rat) (p q : Option Addr) : (nR r p q).val = r := val_of r p q
def TA (w : World) (a : RatV) (e : Ending) (w' : World) : Prop := ∃ p q, e = .returned (.agg #[.bool a.s, .slice p a.n a.n, .slice q a.m a.m]) ∧ Below w.heap.size w w' ∧ (twR a p q).ok w'
def QA (w : World) (r : Rat) (e : Ending) (w' : World) : Prop := ∃ p q, e = .returned (.agg #[.bool (ng r.num), .slice p (ln (am r.num)) (ln (am r.num)), .slice q (ln r.den) (ln r.den)]) ∧ Below w.heap.size w w' ∧ (nR r p q).ok w'

theorem szV {w : World} {q : RatV} (h : q.ok w) {N : Nat} (h1 : q.n ≤ N) (h2 : q.m + 1 ≤ N) : sz N q.val := by
  have l1 := Nat.lt_of_le_of_lt (rn_am q.s q.X q.Y) h.1.1
  have l2 := rd_lt h.2.2.2.1.1
  exact ln1 q.val_low l1 (by rw [am_nat]; exact l2) h1 h2
theorem sz_addY {r t : Rat} {N M : Nat} (h : sz N r) (k : sz M t) : sz (2 * N + 2 * M + 3) (r + t) := by
  have e : co 0 [(0, r), (0, t)] = r + t := by simp [co]; grind
  rw [← e]
  refine (co_sz 0 _).mono ?_
  simp only [wts, wt]
  have := h.1; have := h.2; have := k.1; have := k.2
  omega
theorem sz_mulY {r t : Rat} {N M : Nat} (h : sz N r) (k : sz M t) : sz (N + M) (r * t) := by
  have e : r * t = Rat.divInt (r.num * t.num) ((r.den : Int) * (t.den : Int)) := by
    rw [← Rat.divInt_mul_divInt, Rat.num_divInt_den, Rat.num_divInt_den]
  have hl := (low_of (Int.mul_ne_zero (by have := r.den_pos; omega) (by have := t.den_pos; omega)) e).le
  have a1 := lt_prod (i := N) (j := M) (Nat.lt_of_lt_of_le (ln_lt (am r.num)) (pow_mono h.1)) (Nat.lt_of_lt_of_le (ln_lt (am t.num)) (pow_mono k.1))
  have a2 := lt_prod (i := N) (j := M) (a := (r.den : Int)) (b := (t.den : Int)) (Nat.lt_of_lt_of_le (by rw [am_nat]; exact ln_lt r.den) (pow_mono h.2)) (Nat.lt_of_lt_of_le (by rw [am_nat]; exact ln_lt t.den) (pow_mono k.2))
  exact ⟨ln_le_of_lt (Nat.lt_of_le_of_lt hl.1 a1), ln_le_of_lt (Nat.lt_of_le_of_lt hl.2 a2)⟩
theorem ok_nR {w w' : World} {r : Rat} {p q : Option Addr} (hs : sz 100000000 r) (h1 : New w w' p (am r.num) (ln (am r.num))) (h2 : New w w' q r.den (ln r.den)) : (nR r p q).ok w' :=
  ⟨h1.seg, Nat.le_refl _, Nat.le_trans hs.1 (by omega), h2.seg, Nat.le_refl _, Nat.le_trans hs.2 (by omega)⟩
/-- the sign of a number -/
def sR (r : Rat) : Int := sgn r.num
theorem sR_divInt {A : Int} {D : Int} (h : 0 < D) : sR (Rat.divInt A D) = sgn A := by
  have hl := low_of (A := A) (D := D) (Int.ne_of_gt h) rfl
  have e := hl.eq
  have p := hl.pos
  unfold sR
  have h1 : sgn (A * ((Rat.divInt A D).den : Int)) = sgn ((Rat.divInt A D).num * D) := by rw [e]
  rw [sgn_mul_pos (by omega), sgn_mul_pos h] at h1
  exact h1.symm
theorem sR_neg (r : Rat) : sR (-r) = -(sR r) := by unfold sR; rw [Rat.neg_num, sgn_eq, sgn_eq, Int.sign_neg]
theorem sR_mul (r t : Rat) : sR (r * t) = sR r * sR t := by
  have e : r * t = Rat.divInt (r.num * t.num) ((r.den : Int) * (t.den : Int)) := by
    rw [← Rat.divInt_mul_divInt, Rat.num_divInt_den, Rat.num_divInt_den]
  have p1 := r.den_pos
  have p2 := t.den_pos
  rw [e, sR_divInt (Int.mul_pos (by omega) (by omega))]
  unfold sR
  rw [sgn_eq, sgn_eq, sgn_eq, Int.sign_mul]
theorem sR_val (q : RatV) : sgn (rn q.s q.X q.Y) = sR q.val := (sR_divInt (by have := rd_pos q.Y; omega)).symm
theorem sR_zero {r : Rat} (h : sR r = 0) : r = 0 := by
  unfold sR at h
  refine Rat.num_eq_zero.1 ?_
  rw [sgn_eq] at h
  exact Int.sign_eq_zero_iff_zero.1 h
theorem sR_sub (p q : RatV) : sgn (rn p.s p.X p.Y * (rd q.Y : Nat) - rn q.s q.X q.Y * (rd p.Y : Nat)) = sR (p.val - q.val) := by
  have e : p.val - q.val = Rat.divInt (rn p.s p.X p.Y * (rd q.Y : Nat) - rn q.s q.X q.Y * (rd p.Y : Nat)) ((rd p.Y : Nat) * (rd q.Y : Nat)) := by
    unfold RatV.val
    rw [Rat.divInt_sub_divInt _ _ (rd_ne _) (rd_ne _)]
  have p1 := rd_pos p.Y
  have p2 := rd_pos q.Y
  rw [e, sR_divInt (Int.mul_pos (by omega) (by omega))]
theorem low_subY (p q : RatV) : Low (rn p.s p.X p.Y * (rd q.Y : Nat) + -(rn q.s q.X q.Y) * (rd p.Y : Nat)) ((rd p.Y : Nat) * (rd q.Y : Nat)) (p.val - q.val).num (p.val - q.val).den :=
  low_of (Int.mul_ne_zero (rd_ne _) (rd_ne _)) (by
    unfold RatV.val
    rw [Rat.divInt_sub_divInt _ _ (rd_ne _) (rd_ne _), Int.neg_mul, Int.sub_eq_add_neg])
theorem rn_zero {q : RatV} (h : q.val = 0) : rn q.s q.X q.Y = 0 := by
  have h1 := sR_val q
  rw [h, sgn_eq] at h1
  exact Int.sign_eq_zero_iff_zero.1 h1
theorem rn_nz {q : RatV} (h : q.val ≠ 0) : rn q.s q.X q.Y ≠ 0 := fun e => h (by unfold RatV.val; rw [e, Rat.zero_divInt])
theorem low_divY (p q : RatV) (h : q.val ≠ 0) : Low (rn p.s p.X p.Y * (rd q.Y : Nat)) ((rd p.Y : Nat) * rn q.s q.X q.Y) (p.val / q.val).num (p.val / q.val).den :=
  low_of (Int.mul_ne_zero (rd_ne _) (rn_nz h)) (by
    unfold RatV.val
    rw [Rat.div_def, Rat.inv_divInt, Rat.divInt_mul_divInt])
theorem twinQ (A : RatV) (w : World) (hA : A.ok w) : Calls Tryz.prog 6 #[.agg #[.bool A.s, .slice A.a A.n A.c, .slice A.b A.m A.e]] w (TA w A) := by
  have h1 := hA.2.2.1
  have h2 := hA.2.2.2.2.2
  refine (ltwin_is A.s A.a A.n A.c A.X A.b A.m A.e A.Y w hA.2.1 (by omega) hA.1 hA.2.2.2.2.1 (by omega) hA.2.2.2.1).mono ?_
  rintro e w1 ⟨p, q, rfl, n1, n2⟩
  exact ⟨p, q, rfl, n1.below, n1.seg, Nat.le_refl _, by show A.n ≤ _; omega, n2.seg, Nat.le_refl _, by show A.m ≤ _; omega⟩
theorem addQ (A B : RatV) (S : Rat) (w : World) (hA : A.ok w) (hB : B.ok w) (hn : A.n ≤ 100000000 ∧ A.m ≤ 100000000 ∧ B.n ≤ 100000000 ∧ B.m ≤ 100000000) (hS : A.val + B.val = S) (hz : sz 100000000 S) : Calls Tryz.prog 7 #[.agg #[.bool A.s, .slice A.a A.n A.c, .slice A.b A.m A.e], .agg #[.bool B.s, .slice B.a B.n B.c, .slice B.b B.m B.e]] w (QA w S) := by
  subst hS
  refine (qAdd_is A.s A.a A.n A.c A.X A.b A.m A.e A.Y B.s B.a B.n B.c B.X B.b B.m B.e B.Y _ _ w hA.2.1 (by omega) hA.1 hA.2.2.2.2.1 (by omega) hA.2.2.2.1 hB.2.1 (by omega) hB.1 hB.2.2.2.2.1 (by omega) hB.2.2.2.1 (low_add A B)).mono ?_
  rintro e w1 ⟨p, q, rfl, n1, n2⟩
  exact ⟨p, q, rfl, n1.below, ok_nR hz n1 n2⟩
theorem mulQ (A B : RatV) (S : Rat) (w : World) (hA : A.ok w) (hB : B.ok w) (hn : A.n ≤ 100000000 ∧ A.m ≤ 100000000 ∧ B.n ≤ 100000000 ∧ B.m ≤ 100000000) (hS : A.val * B.val = S) (hz : sz 100000000 S) : Calls Tryz.prog 8 #[.agg #[.bool A.s, .slice A.a A.n A.c, .slice A.b A.m A.e], .agg #[.bool B.s, .slice B.a B.n B.c, .slice B.b B.m B.e]] w (QA w S) := by
  subst hS
  refine (qMul_is A.s A.a A.n A.c A.X A.b A.m A.e A.Y B.s B.a B.n B.c B.X B.b B.m B.e B.Y _ _ w hA.2.1 (by omega) hA.1 hA.2.2.2.2.1 (by omega) hA.2.2.2.1 hB.2.1 (by omega) hB.1 hB.2.2.2.2.1 (by omega) hB.2.2.2.1 (low_mul A B)).mono ?_
  rintro e w1 ⟨p, q, rfl, n1, n2⟩
  exact ⟨p, q, rfl, n1.below, ok_nR hz n1 n2⟩
theorem subQ (A B : RatV) (S : Rat) (w : World) (hA : A.ok w) (hB : B.ok w) (hn : A.n ≤ 100000000 ∧ A.m ≤ 100000000 ∧ B.n ≤ 100000000 ∧ B.m ≤ 100000000) (hS : A.val - B.val = S) (hz : sz 100000000 S) : Calls Tryz.prog 10 #[.agg #[.bool A.s, .slice A.a A.n A.c, .slice A.b A.m A.e], .agg #[.bool B.s, .slice B.a B.n B.c, .slice B.b B.m B.e]] w (QA w S) := by
  subst hS
  refine (qSub_is A.s A.a A.n A.c A.X A.b A.m A.e A.Y B.s B.a B.n B.c B.X B.b B.m B.e B.Y _ _ w hA.2.1 (by omega) hA.1 hA.2.2.2.2.1 (by omega) hA.2.2.2.1 hB.2.1 (by omega) hB.1 hB.2.2.2.2.1 (by omega) hB.2.2.2.1 (low_subY A B)).mono ?_
  rintro e w1 ⟨p, q, rfl, n1, n2⟩
  exact ⟨p, q, rfl, n1.below, ok_nR hz n1 n2⟩
theorem divQ (A B : RatV) (S : Rat) (w : World) (hA : A.ok w) (hB : B.ok w) (hn : A.n ≤ 100000000 ∧ A.m ≤ 100000000 ∧ B.n ≤ 100000000 ∧ B.m ≤ 100000000) (h0 : B.val ≠ 0) (hS : A.val / B.val = S) (hz : sz 100000000 S) : Calls Tryz.prog 11 #[.agg #[.bool A.s, .slice A.a A.n A.c, .slice A.b A.m A.e], .agg #[.bool B.s, .slice B.a B.n B.c, .slice B.b B.m B.e]] w fun e w1 => ∃ p q, e = .returned (.tuple #[.agg #[.bool (ng S.num), .slice p (ln (am S.num)) (ln (am S.num)), .slice q (ln S.den) (ln S.den)], .int .i64 0]) ∧ Below w.heap.size w w1 ∧ (nR S p q).ok w1 := by
  subst hS
  refine (qDiv_is A.s A.a A.n A.c A.X A.b A.m A.e A.Y B.s B.a B.n B.c B.X B.b B.m B.e B.Y _ _ w hA.2.1 (by omega) hA.1 hA.2.2.2.2.1 (by omega) hA.2.2.2.1 hB.2.1 (by omega) hB.1 hB.2.2.2.2.1 (by omega) hB.2.2.2.1 (low_divY A B h0)).mono ?_
  rintro e w1 ⟨p, q, rfl, n1, n2⟩
  exact ⟨p, q, rfl, n1.below, ok_nR hz n1 n2⟩
theorem divQ_zero (A B : RatV) (w : World) (hA : A.ok w) (hB : B.ok w) (hn : A.n ≤ 100000000 ∧ A.m ≤ 100000000 ∧ B.n ≤ 100000000 ∧ B.m ≤ 100000000) (h0 : B.val = 0) : Calls Tryz.prog 11 #[.agg #[.bool A.s, .slice A.a A.n A.c, .slice A.b A.m A.e], .agg #[.bool B.s, .slice B.a B.n B.c, .slice B.b B.m B.e]] w fun e w1 => e = .returned (.tuple #[.agg #[.bool false, .slice none 0 0, .slice none 0 0], .int .i64 11]) ∧ Below w.heap.size w w1 :=
  qDiv_zero A.s A.a A.n A.c A.X A.b A.m A.e A.Y B.s B.a B.n B.c B.X B.b B.m B.e B.Y w hA.2.1 (by omega) hA.1 hA.2.2.2.2.1 (by omega) hA.2.2.2.1 hB.2.1 (by omega) hB.1 hB.2.2.2.2.1 (by omega) hB.2.2.2.1 (rn_zero h0)
theorem normQ (A : RatV) (S : Rat) (w : World) (hA : A.ok w) (hS : A.val = S) (hz : sz 100000000 S) : Calls Tryz.prog 5 #[.agg #[.bool A.s, .slice A.a A.n A.c, .slice A.b A.m A.e]] w (QA w S) := by
  subst hS
  have h1 := hA.2.2.1
  have h2 := hA.2.2.2.2.2
  refine (qNorm_is A.s A.a A.n A.c A.X A.b A.m A.e A.Y _ _ w hA.2.1 (by omega) hA.1 hA.2.2.2.2.1 (by omega) hA.2.2.2.1 A.val_low).mono ?_
  rintro e w1 ⟨p, q, rfl, n1, n2⟩
  exact ⟨p, q, rfl, n1.below, ok_nR hz n1 n2⟩
theorem cmpQ (A B : RatV) (w : World) (hA : A.ok w) (hB : B.ok w) (hn : A.n ≤ 100000000 ∧ A.m ≤ 100000000 ∧ B.n ≤ 100000000 ∧ B.m ≤ 100000000) (C : Int) (hS : sR (A.val - B.val) = C) : Calls Tryz.prog 13 #[.agg #[.bool A.s, .slice A.a A.n A.c, .slice A.b A.m A.e], .agg #[.bool B.s, .slice B.a B.n B.c, .slice B.b B.m B.e]] w fun e w1 => e = .returned (.int .i64 C) ∧ Below w.heap.size w w1 :=
  qCmp_is A.s A.a A.n A.c A.X A.b A.m A.e A.Y B.s B.a B.n B.c B.X B.b B.m B.e B.Y C w hA.2.1 (by omega) hA.1 hA.2.2.2.2.1 (by omega) hA.2.2.2.1 hB.2.1 (by omega) hB.1 hB.2.2.2.2.1 (by omega) hB.2.2.2.1 ((sR_sub A B).trans hS)
theorem signQ (A : RatV) (w : World) (hA : A.ok w) (C : Int) (hS : sR A.val = C) : Calls Tryz.prog 12 #[.agg #[.bool A.s, .slice A.a A.n A.c, .slice A.b A.m A.e]] w fun e w1 => e = .returned (.int .i64 C) ∧ Below w.heap.size w w1 :=
  have h1 := hA.2.2.1
  have h2 := hA.2.2.2.2.2
  qSign_is A.s A.a A.n A.c A.X A.b A.m A.e A.Y C w hA.2.1 (by omega) hA.1 hA.2.2.2.2.1 (by omega) hA.2.2.2.1 ((sR_val A).trans hS)
theorem sameQ (r : Rat) (p q p1 q1 : Option Addr) (w : World) (h1 : (nR r p q).ok w) (h2 : (nR r p1 q1).ok w) : Calls Tryz.prog 9 #[.agg #[.bool (ng r.num), .slice p (ln (am r.num)) (ln (am r.num)), .slice q (ln r.den) (ln r.den)], .agg #[.bool (ng r.num), .slice p1 (ln (am r.num)) (ln (am r.num)), .slice q1 (ln r.den) (ln r.den)]] w fun e w1 => e = .returned (.bool true) ∧ Below w.heap.size w w1 :=
  sameQ_is r.num r.den p q p1 q1 w (Nat.le_trans h1.2.2.1 (by omega)) (Nat.le_trans h1.2.2.2.2.2 (by omega)) h1.1 h1.2.2.2.1 h2.1 h2.2.2.2.1
end Go.Proofs.YtppjfghaboeceaaGreatDoor
