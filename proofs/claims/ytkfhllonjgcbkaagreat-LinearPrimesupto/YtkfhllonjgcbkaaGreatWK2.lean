/-
  Layer 6: the program's Prime.
-/
import Derived.Test.YtkfhllonjgcbkaaGreatNum
import Derived.Test.YtkfhllonjgcbkaaGreatNumR
import Derived.Test.YtkfhllonjgcbkaaGreatWQ4
import Derived.Test.YtkfhllonjgcbkaaGreatWQ5
import Derived.Test.YtkfhllonjgcbkaaGreatWQC
import Derived.Test.YtkfhllonjgcbkaaGreatWQN
import Derived.Test.YtkfhllonjgcbkaaGreatWQA
import Derived.Test.YtkfhllonjgcbkaaGreatWL7
import Derived.Test.YtkfhllonjgcbkaaGreatWL2
import Derived.Test.YtkfhllonjgcbkaaGreatWN1
import Derived.Test.YtkfhllonjgcbkaaGreatWQ7
import Derived.Test.YtkfhllonjgcbkaaGreatWO0
import Derived.Test.YtkfhllonjgcbkaaGreatWN11
import Derived.Test.YtkfhllonjgcbkaaGreatWN10
import Derived.Test.YtkfhllonjgcbkaaGreatNumS
namespace Go.Proofs.YtkfhllonjgcbkaaGreat
set_option linter.unusedVariables false
set_option linter.unusedSimpArgs false

/-- the greatest common divisor of a list of whole numbers -/
def gcdl : List Int → Nat
  | [] => 0
  | z :: l => Nat.gcd z.natAbs (gcdl l)
theorem gcdl_append : ∀ (l m : List Int), gcdl (l ++ m) = Nat.gcd (gcdl l) (gcdl m)
  | [], m => by simp [gcdl]
  | z :: l, m => by simp only [List.cons_append, gcdl]; rw [gcdl_append l m, Nat.gcd_assoc]
theorem gcdl_mul (c : Int) : ∀ (l : List Int), gcdl (l.map fun z => c * z) = c.natAbs * gcdl l
  | [] => by simp [gcdl]
  | z :: l => by simp only [List.map, gcdl]; rw [gcdl_mul c l, Int.natAbs_mul, Nat.gcd_mul_left]
theorem gcdl_dvd : ∀ {l : List Int} {z : Int}, z ∈ l → gcdl l ∣ z.natAbs
  | y :: l, z, h => by
    simp only [gcdl]
    rcases List.mem_cons.1 h with rfl | h
    · exact Nat.gcd_dvd_left _ _
    · exact Nat.dvd_trans (Nat.gcd_dvd_right _ _) (gcdl_dvd h)
theorem num_den (q : Rat) : (q.num : Rat) = q * (q.den : Rat) := by
  have h := Rat.num_divInt_den q
  rw [Rat.divInt_eq_div] at h
  have hd : (q.den : Rat) ≠ 0 := by have := q.den_nz; exact_mod_cast this
  have h2 : (((q.den : Nat) : Int) : Rat) = (q.den : Rat) := Rat.intCast_natCast _
  rw [h2] at h
  have h3 : (q.num : Rat) / (q.den : Rat) * (q.den : Rat) = (q.num : Rat) := Rat.div_mul_cancel hd
  rw [h] at h3
  exact h3.symm
/-- g is a content of l -/
def Ct (g : Rat) (l : List Rat) : Prop := g ≠ 0 ∧ ∃ zs : List Int, l = zs.map (fun z : Int => g * (z : Rat)) ∧ gcdl zs = 1
theorem Ct.one {c : Rat} (h : c ≠ 0) : Ct c [c] := ⟨h, [1], by simp, by decide⟩
theorem Ct.some {g : Rat} {l : List Rat} (h : Ct g l) : l ≠ [] := by
  obtain ⟨_, zs, rfl, h1⟩ := h
  intro e
  rw [List.map_eq_nil_iff] at e
  subst e
  simp [gcdl] at h1
/-- two contents make one: h / g in lowest terms is n / m, and g / m is the content of both -/
theorem Ct.two {g h : Rat} {l m : List Rat} (a : Ct g l) (b : Ct h m) : Ct (g * ((h / g).den : Rat)⁻¹) (l ++ m) := by
  obtain ⟨hg, zs, rfl, h1⟩ := a
  obtain ⟨hh, ys, rfl, h2⟩ := b
  obtain ⟨q, hq⟩ : ∃ q, h / g = q := ⟨_, rfl⟩
  rw [hq]
  have hd : (q.den : Rat) ≠ 0 := by have := q.den_nz; exact_mod_cast this
  have e1 : ∀ z : Int, g * (z : Rat) = g * (q.den : Rat)⁻¹ * (((q.den : Int) * z : Int) : Rat) := fun z => by
    rw [Rat.intCast_mul, Rat.intCast_natCast]
    grind
  have e2 : ∀ z : Int, h * (z : Rat) = g * (q.den : Rat)⁻¹ * ((q.num * z : Int) : Rat) := fun z => by
    have hh' : h = g * q := by rw [← hq]; grind
    have hn := num_den q
    rw [Rat.intCast_mul, hh', hn]
    grind
  refine ⟨?_, zs.map (fun z => (q.den : Int) * z) ++ ys.map (fun z => q.num * z), ?_, ?_⟩
  · intro e
    rcases Rat.mul_eq_zero.1 e with e | e
    · exact hg e
    · exact hd (by rw [← Rat.inv_inv (q.den : Rat), e, Rat.inv_zero])
  · rw [List.map_append, List.map_map, List.map_map]
    congr 1
    · exact List.map_congr_left fun z _ => e1 z
    · exact List.map_congr_left fun z _ => e2 z
  · rw [gcdl_append, gcdl_mul, gcdl_mul, h1, h2, Nat.mul_one, Nat.mul_one, Int.natAbs_natCast, Nat.gcd_comm]
    exact q.reduced
/-- a content is one but for its sign -/
theorem Ct.uniq {g h : Rat} {l : List Rat} (a : Ct g l) (b : Ct h l) : h = g ∨ h = -g := by
  obtain ⟨hg, zs, rfl, h1⟩ := a
  obtain ⟨hh, ys, e, h2⟩ := b
  obtain ⟨q, hq⟩ : ∃ q, h / g = q := ⟨_, rfl⟩
  have hh' : h = g * q := by rw [← hq]; grind
  have hn := num_den q
  have e3 : zs.map (fun z => (q.den : Int) * z) = ys.map (fun z => q.num * z) := by
    have hlen : zs.length = ys.length := by have := congrArg List.length e; simpa using this
    apply List.ext_getElem (by simpa using hlen)
    intro i k1 k2
    have hz : i < zs.length := by simpa using k1
    have hy : i < ys.length := by simpa using k2
    have e5 : g * ((zs[i] : Int) : Rat) = h * ((ys[i] : Int) : Rat) := by
      have h9 := congrArg (fun l => l[i]?) e
      simp only [List.getElem?_map, List.getElem?_eq_getElem hz, List.getElem?_eq_getElem hy, Option.map_some] at h9
      exact Option.some.inj h9
    rw [List.getElem_map, List.getElem_map]
    have e6 : (((q.den : Int) * zs[i] : Int) : Rat) = ((q.num * ys[i] : Int) : Rat) := by
      rw [Rat.intCast_mul, Rat.intCast_mul, Rat.intCast_natCast, hn]
      rw [hh'] at e5
      grind
    exact_mod_cast e6
  have e4 := congrArg gcdl e3
  rw [gcdl_mul, gcdl_mul, h1, h2, Nat.mul_one, Nat.mul_one, Int.natAbs_natCast] at e4
  have e5 := q.reduced
  unfold Nat.Coprime at e5
  rw [← e4, Nat.gcd_self] at e5
  rw [e5] at e4 hn
  rw [hh']
  rcases Int.natAbs_eq q.num with h | h
  · left
    rw [h, ← e4] at hn
    have : q = 1 := by
      have h3 : ((1 : Nat) : Rat) = 1 := rfl
      have h4 : (((1 : Nat) : Int) : Rat) = 1 := rfl
      rw [h3, h4] at hn
      grind
    rw [this]; grind
  · right
    rw [h, ← e4] at hn
    have : q = -1 := by
      have h3 : ((1 : Nat) : Rat) = 1 := rfl
      have h4 : ((-((1 : Nat) : Int) : Int) : Rat) = -1 := rfl
      rw [h3, h4] at hn
      grind
    rw [this]; grind
/-- by a common denominator: the greatest common divisor of the numerators, through it -/
theorem Ct.ref {l : List Rat} {L : Nat} {ws : List Int} (hL : 0 < L) (h : l = ws.map (fun w : Int => (w : Rat) / (L : Rat))) (hn : 0 < gcdl ws) : Ct ((gcdl ws : Rat) / (L : Rat)) l := by
  have hL' : (L : Rat) ≠ 0 := by have : L ≠ 0 := by omega
                                 exact_mod_cast this
  have hG : (gcdl ws : Rat) ≠ 0 := by have : gcdl ws ≠ 0 := by omega
                                      exact_mod_cast this
  have ew : ws = (ws.map fun w => w / (gcdl ws : Int)).map (fun z => (gcdl ws : Int) * z) := by
    rw [List.map_map]
    conv => lhs; rw [← List.map_id ws]
    refine List.map_congr_left fun w hw => ?_
    have hd : (gcdl ws : Int) ∣ w := Int.ofNat_dvd_left.2 (gcdl_dvd hw)
    exact (Int.mul_ediv_cancel' hd).symm
  refine ⟨?_, ws.map fun w => w / (gcdl ws : Int), ?_, ?_⟩
  · intro e
    have : (gcdl ws : Rat) = (gcdl ws : Rat) / (L : Rat) * (L : Rat) := by grind
    rw [e] at this
    exact hG (by rw [this]; grind)
  · rw [h, List.map_map]
    refine List.map_congr_left fun w hw => ?_
    have hd : (gcdl ws : Int) ∣ w := Int.ofNat_dvd_left.2 (gcdl_dvd hw)
    have e1 : (gcdl ws : Int) * (w / (gcdl ws : Int)) = w := Int.mul_ediv_cancel' hd
    have e2 : (gcdl ws : Rat) * ((w / (gcdl ws : Int) : Int) : Rat) = (w : Rat) := by
      rw [← Rat.intCast_natCast, ← Rat.intCast_mul, e1]
    show (w : Rat) / (L : Rat) = (gcdl ws : Rat) / (L : Rat) * ((w / (gcdl ws : Int) : Int) : Rat)
    rw [← e2]
    grind
  · have e3 := congrArg gcdl ew
    rw [gcdl_mul, Int.natAbs_natCast] at e3
    exact (Nat.mul_right_cancel_iff hn).1 (by rw [Nat.mul_comm]; omega)
/-! ### How long a content is -/
theorem dvd_gcdl {d : Nat} : ∀ {l : List Int}, (∀ z ∈ l, d ∣ z.natAbs) → d ∣ gcdl l
  | [], _ => Nat.dvd_zero _
  | z :: l, h => Nat.dvd_gcd (h z (List.mem_cons_self ..)) (dvd_gcdl fun y hy => h y (List.mem_cons_of_mem _ hy))
/-- r times z is whole: its denominator divides z -/
theorem den_dvd_of {r : Rat} {z w : Int} (h : r * (z : Rat) = (w : Rat)) : r.den ∣ z.natAbs := by
  have e : ((r.num * z : Int) : Rat) = ((w * (r.den : Int) : Int) : Rat) := by
    rw [Rat.intCast_mul, Rat.intCast_mul, Rat.intCast_natCast, num_den r, ← h]
    grind
  have e2 : r.num * z = w * (r.den : Int) := by exact_mod_cast e
  have e3 : r.den ∣ r.num.natAbs * z.natAbs := by
    rw [← Int.natAbs_mul, e2, Int.natAbs_mul, Int.natAbs_natCast]
    exact Nat.dvd_mul_left _ _
  exact (Nat.Coprime.symm r.reduced).dvd_of_dvd_mul_left e3
theorem Ct.num_dvd {g : Rat} {l : List Rat} (h : Ct g l) {c : Rat} (hc : c ∈ l) : g.num.natAbs ∣ c.num.natAbs := by
  obtain ⟨hg, zs, rfl, h1⟩ := h
  obtain ⟨z, hz, rfl⟩ := List.mem_map.1 hc
  obtain ⟨c, hc'⟩ : ∃ c, g * (z : Rat) = c := ⟨_, rfl⟩
  rw [hc']
  have e : ((c.num * (g.den : Int) : Int) : Rat) = ((g.num * (z * (c.den : Int)) : Int) : Rat) := by
    rw [Rat.intCast_mul, Rat.intCast_mul, Rat.intCast_mul, Rat.intCast_natCast, Rat.intCast_natCast, num_den c, num_den g, ← hc']
    grind
  have e2 : c.num * (g.den : Int) = g.num * (z * (c.den : Int)) := by exact_mod_cast e
  have e3 : g.num.natAbs ∣ c.num.natAbs * g.den := by
    have h9 := congrArg Int.natAbs e2
    rw [Int.natAbs_mul, Int.natAbs_natCast, Int.natAbs_mul] at h9
    rw [h9]
    exact Nat.dvd_mul_right _ _
  exact (show Nat.Coprime g.num.natAbs g.den from g.reduced).dvd_of_dvd_mul_right e3
theorem Ct.den_dvd {g : Rat} {l : List Rat} (h : Ct g l) {P : Nat} (hP : ∀ c ∈ l, c.den ∣ P) : g.den ∣ P := by
  obtain ⟨hg, zs, rfl, h1⟩ := h
  have hr : (g * (P : Rat)).den = 1 := by
    have h2 : (g * (P : Rat)).den ∣ gcdl zs := dvd_gcdl fun z hz => by
      obtain ⟨k, hk⟩ := hP (g * (z : Rat)) (List.mem_map.2 ⟨z, hz, rfl⟩)
      obtain ⟨c, hc'⟩ : ∃ c, g * (z : Rat) = c := ⟨_, rfl⟩
      rw [hc'] at hk
      refine den_dvd_of (w := c.num * (k : Int)) ?_
      have e1 : g * (P : Rat) * (z : Rat) = c * (P : Rat) := by rw [← hc']; grind
      have e2 : (P : Rat) = (c.den : Rat) * (k : Rat) := by rw [hk]; exact Rat.natCast_mul _ _
      rw [e1, e2, Rat.intCast_mul, Rat.intCast_natCast, num_den c]
      grind
    rw [h1] at h2
    exact Nat.dvd_one.1 h2
  have e3 : g * (((P : Nat) : Int) : Rat) = ((g * (P : Rat)).num : Rat) := by
    rw [Rat.intCast_natCast, num_den (g * (P : Rat)), hr]
    have h3 : ((1 : Nat) : Rat) = 1 := rfl
    rw [h3]
    grind
  have h4 := den_dvd_of e3
  rwa [Int.natAbs_natCast] at h4
end Go.Proofs.YtkfhllonjgcbkaaGreat

namespace Go.Proofs.YtkfhllonjgcbkaaGreat
open Go.RowKit
set_option linter.unusedVariables false
set_option linter.unusedSimpArgs false

theorem RatV.ok.on {w w' : World} {q : RatV} (h : q.ok w) (hb : Below w.heap.size w w') : q.ok w' := ⟨h.1.later hb, h.2.1, h.2.2.1, h.2.2.2.1.later hb, h.2.2.2.2.1, h.2.2.2.2.2⟩
/-- a number, normal -/
def nR (r : Rat) (p q : Option Addr) : RatV := ⟨ng r.num, p, ln (am r.num), ln (am r.num), am r.num, q, ln r.den, ln r.den, r.den⟩
theorem nR_val (r : Rat) (p q : Option Addr) : (nR r p q).val = r := val_of r p q
def QA (w : World) (r : Rat) (e : Ending) (w' : World) : Prop := ∃ p q, e = .returned (.agg #[.bool (ng r.num), .slice p (ln (am r.num)) (ln (am r.num)), .slice q (ln r.den) (ln r.den)]) ∧ Below w.heap.size w w' ∧ (nR r p q).ok w'

theorem sz_mulY {r t : Rat} {N M : Nat} (h : sz N r) (k : sz M t) : sz (N + M) (r * t) := by
  have e : r * t = Rat.divInt (r.num * t.num) ((r.den : Int) * (t.den : Int)) := by
    rw [← Rat.divInt_mul_divInt, Rat.num_divInt_den, Rat.num_divInt_den]
  have hl := (low_of (Int.mul_ne_zero (by have := r.den_pos; omega) (by have := t.den_pos; omega)) e).le
  have a1 := lt_prod (i := N) (j := M) (Nat.lt_of_lt_of_le (ln_lt (am r.num)) (pow_mono h.1)) (Nat.lt_of_lt_of_le (ln_lt (am t.num)) (pow_mono k.1))
  have a2 := lt_prod (i := N) (j := M) (a := (r.den : Int)) (b := (t.den : Int)) (Nat.lt_of_lt_of_le (by rw [am_nat]; exact ln_lt r.den) (pow_mono h.2)) (Nat.lt_of_lt_of_le (by rw [am_nat]; exact ln_lt t.den) (pow_mono k.2))
  exact ⟨ln_le_of_lt (Nat.lt_of_le_of_lt hl.1 a1), ln_le_of_lt (Nat.lt_of_le_of_lt hl.2 a2)⟩
theorem ok_nR {w w' : World} {r : Rat} {p q : Option Addr} (hs : sz 100000000 r) (h1 : New w w' p (am r.num) (ln (am r.num))) (h2 : New w w' q r.den (ln r.den)) : (nR r p q).ok w' :=
  ⟨h1.seg, Nat.le_refl _, Nat.le_trans hs.1 (by omega), h2.seg, Nat.le_refl _, Nat.le_trans hs.2 (by omega)⟩
/-- the sign of a number -/
def sR (r : Rat) : Int := sgn r.num
theorem sR_divInt {A : Int} {D : Int} (h : 0 < D) : sR (Rat.divInt A D) = sgn A := by
  have hl := low_of (A := A) (D := D) (Int.ne_of_gt h) rfl
  have e := hl.eq
  have p := hl.pos
  unfold sR
  have h1 : sgn (A * ((Rat.divInt A D).den : Int)) = sgn ((Rat.divInt A D).num * D) := by rw [e]
  rw [sgn_mul_pos (by omega), sgn_mul_pos h] at h1
  exact h1.symm
theorem sR_neg (r : Rat) : sR (-r) = -(sR r) := by unfold sR; rw [Rat.neg_num, sgn_eq, sgn_eq, Int.sign_neg]
theorem sR_val (q : RatV) : sgn (rn q.s q.X q.Y) = sR q.val := (sR_divInt (by have := rd_pos q.Y; omega)).symm
theorem rn_nz {q : RatV} (h : q.val ≠ 0) : rn q.s q.X q.Y ≠ 0 := fun e => h (by unfold RatV.val; rw [e, Rat.zero_divInt])
theorem low_divY (p q : RatV) (h : q.val ≠ 0) : Low (rn p.s p.X p.Y * (rd q.Y : Nat)) ((rd p.Y : Nat) * rn q.s q.X q.Y) (p.val / q.val).num (p.val / q.val).den :=
  low_of (Int.mul_ne_zero (rd_ne _) (rn_nz h)) (by
    unfold RatV.val
    rw [Rat.div_def, Rat.inv_divInt, Rat.divInt_mul_divInt])
theorem mulQ (A B : RatV) (S : Rat) (w : World) (hA : A.ok w) (hB : B.ok w) (hn : A.n ≤ 100000000 ∧ A.m ≤ 100000000 ∧ B.n ≤ 100000000 ∧ B.m ≤ 100000000) (hS : A.val * B.val = S) (hz : sz 100000000 S) : Calls Tryz.prog 42 #[.agg #[.bool A.s, .slice A.a A.n A.c, .slice A.b A.m A.e], .agg #[.bool B.s, .slice B.a B.n B.c, .slice B.b B.m B.e]] w (QA w S) := by
  subst hS
  refine (qMul_is A.s A.a A.n A.c A.X A.b A.m A.e A.Y B.s B.a B.n B.c B.X B.b B.m B.e B.Y _ _ w hA.2.1 (by omega) hA.1 hA.2.2.2.2.1 (by omega) hA.2.2.2.1 hB.2.1 (by omega) hB.1 hB.2.2.2.2.1 (by omega) hB.2.2.2.1 (low_mul A B)).mono ?_
  rintro e w1 ⟨p, q, rfl, n1, n2⟩
  exact ⟨p, q, rfl, n1.below, ok_nR hz n1 n2⟩
theorem divQ (A B : RatV) (S : Rat) (w : World) (hA : A.ok w) (hB : B.ok w) (hn : A.n ≤ 100000000 ∧ A.m ≤ 100000000 ∧ B.n ≤ 100000000 ∧ B.m ≤ 100000000) (h0 : B.val ≠ 0) (hS : A.val / B.val = S) (hz : sz 100000000 S) : Calls Tryz.prog 41 #[.agg #[.bool A.s, .slice A.a A.n A.c, .slice A.b A.m A.e], .agg #[.bool B.s, .slice B.a B.n B.c, .slice B.b B.m B.e]] w fun e w1 => ∃ p q, e = .returned (.tuple #[.agg #[.bool (ng S.num), .slice p (ln (am S.num)) (ln (am S.num)), .slice q (ln S.den) (ln S.den)], .int .i64 0]) ∧ Below w.heap.size w w1 ∧ (nR S p q).ok w1 := by
  subst hS
  refine (qDiv_is A.s A.a A.n A.c A.X A.b A.m A.e A.Y B.s B.a B.n B.c B.X B.b B.m B.e B.Y _ _ w hA.2.1 (by omega) hA.1 hA.2.2.2.2.1 (by omega) hA.2.2.2.1 hB.2.1 (by omega) hB.1 hB.2.2.2.2.1 (by omega) hB.2.2.2.1 (low_divY A B h0)).mono ?_
  rintro e w1 ⟨p, q, rfl, n1, n2⟩
  exact ⟨p, q, rfl, n1.below, ok_nR hz n1 n2⟩
end Go.Proofs.YtkfhllonjgcbkaaGreat

namespace Go.Proofs.YtkfhllonjgcbkaaGreat
open Go.RowKit
set_option linter.unusedVariables false
set_option linter.unusedSimpArgs false

theorem szInv {N : Nat} {t : Rat} (h : sz N t) (h0 : t ≠ 0) : sz N (t⁻¹) := by
  have hl := (low_of (A := (t.den : Int)) (D := t.num) (fun e => h0 (Rat.num_eq_zero.1 e)) (Rat.inv_def t)).le
  exact ⟨Nat.le_trans (ln_mono hl.1) h.2, Nat.le_trans (ln_mono hl.2) h.1⟩
/-- one over a number -/
theorem val_over (p q : Option Addr) {V : Nat} (hV : 0 < V) : (RatV.mk false p 1 1 1 q (ln V) (ln V) V).val = ((V : Nat) : Rat)⁻¹ := by
  unfold RatV.val
  rw [rn_of (Nat.ne_of_gt hV), rd_of (Nat.ne_of_gt hV)]
  show Rat.divInt 1 (V : Int) = _
  rw [Rat.divInt_eq_div, Rat.div_def, Rat.intCast_natCast]
  show (1 : Rat) * _ = _
  rw [Rat.one_mul]
theorem inv_pos' {V : Nat} (hV : 0 < V) : (0 : Rat) < ((V : Nat) : Rat)⁻¹ := by
  have h : (0 : Rat) < (V : Rat) := by exact_mod_cast hV
  exact Rat.inv_pos.2 h
set_option maxHeartbeats 4000000 in
set_option maxRecDepth 100000 in
theorem common_is (A B : RatV) (Q G : Rat) (w : World) (hA : A.ok w) (hB9 : B.ok w) (hn : A.n ≤ 100000000 ∧ A.m ≤ 100000000 ∧ B.n ≤ 100000000 ∧ B.m ≤ 100000000) (h0 : A.val ≠ 0) (hQ : B.val / A.val = Q) (hzQ : sz 100000000 Q) (hG : A.val * ((Q.den : Nat) : Rat)⁻¹ = G) (hz : sz 100000000 G) :
    Calls Tryz.prog 18 #[.agg #[.bool A.s, .slice A.a A.n A.c, .slice A.b A.m A.e], .agg #[.bool B.s, .slice B.a B.n B.c, .slice B.b B.m B.e]] w (QA w G) := by
  have G1 := hide' (fun w' (hb : Below w.heap.size w w') => divQ B A Q w' (hB9.on hb) (hA.on hb) ⟨hn.2.2.1, hn.2.2.2, hn.1, hn.2.1⟩ h0 hQ hzQ)
  have GW' := fun w' => qWhole_is 1 w' (by omega) (by omega)
  rw [show ng 1 = false from rfl, show am 1 = 1 from rfl, ln_one] at GW'
  have GW := hide' GW'
  clear GW'
  have GM := hide' (fun w' (hb : Below w.heap.size w w') p q (k1 : Seg w' p 1 1) (k2 : Seg w' q Q.den (ln Q.den)) => mulQ A (RatV.mk false p 1 1 1 q (ln Q.den) (ln Q.den) Q.den) G w' (hA.on hb) ⟨k1, Nat.le_refl _, by show 1 ≤ _; omega, k2, Nat.le_refl _, by have := hzQ.2; show ln Q.den ≤ _; omega⟩ ⟨hn.1, hn.2.1, by show 1 ≤ _; omega, hzQ.2⟩ (by rw [val_over p q Q.den_pos]; exact hG) hz)
  clear hA hB9 hn h0 hQ hzQ hG hz
  go_enter Tryz.func18, Tryz.ntmps18
  go_wp2_with fail
  obtain ⟨W, hW⟩ : ∃ W, (((w.alloc (.cells #[.bool A.s, .slice A.a A.n A.c, .slice A.b A.m A.e] 29)).alloc (.cells #[.bool B.s, .slice B.a B.n B.c, .slice B.b B.m B.e] 29)).alloc (.cells #[.bool false, .slice none 0 0, .slice none 0 0] 29)) = W := ⟨_, rfl⟩
  have q00 : W.cell? ⟨w.heap.size, 0, none⟩ = some (.bool A.s) := by subst hW; go_simp
  have q01 : W.cell? ⟨w.heap.size, 1, none⟩ = some (.slice A.a A.n A.c) := by subst hW; go_simp
  have q02 : W.cell? ⟨w.heap.size, 2, none⟩ = some (.slice A.b A.m A.e) := by subst hW; go_simp
  have q10 : W.cell? ⟨w.heap.size + 1, 0, none⟩ = some (.bool B.s) := by subst hW; go_simp
  have q11 : W.cell? ⟨w.heap.size + 1, 1, none⟩ = some (.slice B.a B.n B.c) := by subst hW; go_simp
  have q12 : W.cell? ⟨w.heap.size + 1, 2, none⟩ = some (.slice B.b B.m B.e) := by subst hW; go_simp
  have r00 : W.cell? ⟨w.heap.size + 1 + 1, 0, none⟩ = some (.bool false) := by subst hW; go_simp
  have r01 : W.cell? ⟨w.heap.size + 1 + 1, 1, none⟩ = some (.slice none 0 0) := by subst hW; go_simp
  have r02 : W.cell? ⟨w.heap.size + 1 + 1, 2, none⟩ = some (.slice none 0 0) := by subst hW; go_simp
  have hB : Below w.heap.size w W := by subst hW; exact ((((Below.refl _ _).alloc (by (try simp only [World.size_alloc]); omega) _).alloc (by (try simp only [World.size_alloc]); omega) _).alloc (by (try simp only [World.size_alloc]); omega) _)
  have hR0 : Row W (w.heap.size + 1 + 1) := by
    have := row_new (((w.alloc (.cells #[.bool A.s, .slice A.a A.n A.c, .slice A.b A.m A.e] 29)).alloc (.cells #[.bool B.s, .slice B.a B.n B.c, .slice B.b B.m B.e] 29))) #[.bool false, .slice none 0 0, .slice none 0 0] 29
    try simp only [World.size_alloc] at this
    subst hW; exact this
  have hz : W.heap.size = w.heap.size + 1 + 1 + 1 := by subst hW; simp only [World.size_alloc]
  rw [hW]
  clear hW
  have hBW : Below W.heap.size W W := Below.refl _ _
  refine (G1.out _ (hB.trans (hBW.mono hB.size))).mono ?_
  rintro e w1 ⟨x1, y1, rfl, g1, j1, _, _, k1, _, _⟩
  have b1 := g1
  replace hBW := hBW.trans (b1.mono hBW.size)
  replace q00 := below_cell b1 q00
  replace q01 := below_cell b1 q01
  replace q02 := below_cell b1 q02
  replace q10 := below_cell b1 q10
  replace q11 := below_cell b1 q11
  replace q12 := below_cell b1 q12
  replace r00 := below_cell b1 r00
  replace r01 := below_cell b1 r01
  replace r02 := below_cell b1 r02
  replace hR0 := below_row b1 hR0
  replace k1 : Seg w1 y1 Q.den (ln Q.den) := k1
  have hsz1 := hBW.size
  have hlt1hR0 := hR0.lt
  have l100 : ((w1.alloc (.cells #[.bool (ng Q.num), .slice x1 (ln (am Q.num)) (ln (am Q.num)), .slice y1 (ln Q.den) (ln Q.den)] 29))).cell? ⟨w1.heap.size, 0, none⟩ = some (.bool (ng Q.num)) := by go_simp
  have l101 : ((w1.alloc (.cells #[.bool (ng Q.num), .slice x1 (ln (am Q.num)) (ln (am Q.num)), .slice y1 (ln Q.den) (ln Q.den)] 29))).cell? ⟨w1.heap.size, 1, none⟩ = some (.slice x1 (ln (am Q.num)) (ln (am Q.num))) := by go_simp
  have l102 : ((w1.alloc (.cells #[.bool (ng Q.num), .slice x1 (ln (am Q.num)) (ln (am Q.num)), .slice y1 (ln Q.den) (ln Q.den)] 29))).cell? ⟨w1.heap.size, 2, none⟩ = some (.slice y1 (ln Q.den) (ln Q.den)) := by go_simp
  have cb1 : Below w1.heap.size w1 ((w1.alloc (.cells #[.bool (ng Q.num), .slice x1 (ln (am Q.num)) (ln (am Q.num)), .slice y1 (ln Q.den) (ln Q.den)] 29))) := ((Below.refl _ _).alloc (by (try simp only [World.size_alloc]); omega) _)
  replace hBW := hBW.trans (cb1.mono hBW.size)
  replace q00 := below_cell cb1 q00
  replace q01 := below_cell cb1 q01
  replace q02 := below_cell cb1 q02
  replace q10 := below_cell cb1 q10
  replace q11 := below_cell cb1 q11
  replace q12 := below_cell cb1 q12
  replace r00 := below_cell cb1 r00
  replace r01 := below_cell cb1 r01
  replace r02 := below_cell cb1 r02
  replace hR0 := below_row cb1 hR0
  replace k1 := k1.later cb1
  have hL10 : Row ((w1.alloc (.cells #[.bool (ng Q.num), .slice x1 (ln (am Q.num)) (ln (am Q.num)), .slice y1 (ln Q.den) (ln Q.den)] 29))) (w1.heap.size) := by
    have := row_new (w1) #[.bool (ng Q.num), .slice x1 (ln (am Q.num)) (ln (am Q.num)), .slice y1 (ln Q.den) (ln Q.den)] 29
    try simp only [World.size_alloc] at this
    exact this
  go_wp2_with fail
  generalize (w1.alloc (.cells #[.bool (ng Q.num), .slice x1 (ln (am Q.num)) (ln (am Q.num)), .slice y1 (ln Q.den) (ln Q.den)] 29)) = w1x at q00 q01 q02 q10 q11 q12 r00 r01 r02 l100 l101 l102 hR0 hL10 k1 hBW cb1 ⊢
  clear cb1
  have rA : Thr w1x (w.heap.size + 1 + 1) (.bool false) (.slice none 0 0) (.slice none 0 0) := ⟨⟨r00, r01, r02⟩, hR0⟩
  replace hB := hB.trans (hBW.mono hB.size)
  clear r00 r01 r02 hR0 hL10 q10 q11 q12 l100 l101 j1 g1 b1 G1
  have bD : Below w1x.heap.size w1x w1x.drew := (Below.refl _ _).drew
  have kq00 := below_cell bD q00
  have kq01 := below_cell bD q01
  have kq02 := below_cell bD q02
  have kl102 := below_cell bD l102
  replace hB := hB.trans (bD.mono hB.size)
  replace rA := rA.later bD
  replace k1 := k1.later bD
  refine wp_region_held_drew (S := fun w' => w'.cell? ⟨w.heap.size, 0, none⟩ = some (.bool A.s) ∧ w'.cell? ⟨w.heap.size, 1, none⟩ = some (.slice A.a A.n A.c) ∧ w'.cell? ⟨w.heap.size, 2, none⟩ = some (.slice A.b A.m A.e) ∧ w'.cell? ⟨w1.heap.size, 2, none⟩ = some (.slice y1 (ln Q.den) (ln Q.den))) (by kernel_rfl) ⟨kq00, kq01, kq02, kl102⟩ (fun hHeld => ?_)
  clear kq00 kq01 kq02 kl102
  generalize w1x.drew = w0 at bD rA k1 hB hHeld ⊢
  clear q00 q01 q02 l102
  refine take' 0 (v := ?_) rfl (by kernel_rfl) (by kernel_rfl) (by kernel_rfl) (fun _ _ _ h => h) (Or.inl ⟨by rfl, ?_⟩) (by assumption) ?_
  rotate_left
  · intro w9 hSw
    go_simp
    first | done | with_reducible rfl
  simp only [Act.put, List.setIfInBounds_toArray, List.set_cons_zero, List.set_cons_succ]
  refine take' 3 (v := ?_) rfl (by kernel_rfl) (by kernel_rfl) (by kernel_rfl) (fun _ _ _ h => h) (Or.inl ⟨by rfl, ?_⟩) (by assumption) ?_
  rotate_left
  · intro w9 hSw
    go_simp
    first | done | with_reducible rfl
  simp only [Act.put, List.setIfInBounds_toArray, List.set_cons_zero, List.set_cons_succ]
  refine take' 4 (v := ?_) rfl (by kernel_rfl) (by kernel_rfl) (by kernel_rfl) (fun _ _ _ h => h) (Or.inl ⟨by rfl, ?_⟩) (by assumption) ?_
  rotate_left
  · intro w9 hSw
    go_simp
    first | done | with_reducible rfl
  simp only [Act.put, List.setIfInBounds_toArray, List.set_cons_zero, List.set_cons_succ]
  refine wpAnyH_ready (rs := [1]) (by kernel_rfl) (by simp) ?_
  refine cons' rfl (fun KK hKK => ?_)
  go_simp
  refine (GW.out _).mono ?_
  rintro e w2 ⟨p2, q2, rfl, n2, n3⟩
  have bC := n2.below
  replace hB := hB.trans (bC.mono hB.size)
  replace rA := rA.later bC
  replace k1 := k1.later bC
  replace hHeld := (⟨below_cell bC hHeld.1, below_cell bC hHeld.2.1, below_cell bC hHeld.2.2.1, below_cell bC hHeld.2.2.2⟩ : _ ∧ _ ∧ _ ∧ _)
  clear bC
  go_wp2_with fail
  have k2 := n2.seg
  clear n2 n3 GW
  refine hKK.out _ _ hHeld ?_
  clear hHeld
  intro hHeld
  clear hKK KK
  try simp only [Act.put, List.setIfInBounds_toArray, List.set_cons_zero, List.set_cons_succ]
  have hf := run_field0
  refine take' 2 (v := ?_) rfl (by kernel_rfl) (by kernel_rfl) (by kernel_rfl) (fun _ _ _ h => h) (Or.inl ⟨by rfl, ?_⟩) (by assumption) ?_
  rotate_left
  · intro w9 hSw
    go_simp
    first | done | with_reducible rfl
  simp only [Act.put, List.setIfInBounds_toArray, List.set_cons_zero, List.set_cons_succ]
  refine take' 5 (v := ?_) rfl (by kernel_rfl) (by kernel_rfl) (by kernel_rfl) (fun _ _ _ h => h) (Or.inl ⟨by rfl, ?_⟩) (by assumption) ?_
  rotate_left
  · intro w9 hSw
    go_simp
    first | done | with_reducible rfl
  simp only [Act.put, List.setIfInBounds_toArray, List.set_cons_zero, List.set_cons_succ]
  clear hf
  refine wpAnyH_ready (rs := [6]) (by kernel_rfl) (by simp) ?_
  refine cons' rfl (fun KK hKK => ?_)
  go_simp
  refine (GM.out _ hB p2 y1 k2 k1).mono ?_
  rintro e w3 ⟨x3, y3, rfl, b3, k3⟩
  have bC := b3
  replace hB := hB.trans (bC.mono hB.size)
  replace rA := rA.later bC
  replace k1 := k1.later bC
  replace k2 := k2.later bC
  replace hHeld := (⟨below_cell bC hHeld.1, below_cell bC hHeld.2.1, below_cell bC hHeld.2.2.1, below_cell bC hHeld.2.2.2⟩ : _ ∧ _ ∧ _ ∧ _)
  clear bC
  go_wp2_with fail
  clear b3 GM
  refine hKK.out _ _ hHeld ?_
  clear hHeld
  intro hHeld
  clear hKK KK
  try simp only [Act.put, List.setIfInBounds_toArray, List.set_cons_zero, List.set_cons_succ]
  refine wpAnyH_ready (rs := [7]) (by kernel_rfl) (by simp) ?_
  refine cons' rfl (fun KK hKK => ?_)
  have fz := fun o => rA.2.frozen o
  have t0 := rA.1.1
  have t1 := rA.1.2.1
  have t2 := rA.1.2.2
  have g8 := rA.seg (u0 := .bool (ng G.num)) (u1 := .slice x3 (ln (am G.num)) (ln (am G.num))) (u2 := .slice y3 (ln G.den) (ln G.den)) (by simp) (by simp) (by simp) k3.1
  have g9 := rA.seg (u0 := .bool (ng G.num)) (u1 := .slice x3 (ln (am G.num)) (ln (am G.num))) (u2 := .slice y3 (ln G.den) (ln G.den)) (by simp) (by simp) (by simp) k3.2.2.2.1
  replace hB : Below w.heap.size w (set3 w3 (w.heap.size + 1 + 1) (.bool (ng G.num)) (.slice x3 (ln (am G.num)) (ln (am G.num))) (.slice y3 (ln G.den) (ln G.den))) := below_set3 hB (by omega)
  have hH2 := (⟨(set3_far (w := w3) (c := w.heap.size + 1 + 1) (b := w.heap.size) (o := 0) (u0 := .bool (ng G.num)) (u1 := .slice x3 (ln (am G.num)) (ln (am G.num))) (u2 := .slice y3 (ln G.den) (ln G.den)) (by omega)).trans hHeld.1, (set3_far (w := w3) (c := w.heap.size + 1 + 1) (b := w.heap.size) (o := 1) (u0 := .bool (ng G.num)) (u1 := .slice x3 (ln (am G.num)) (ln (am G.num))) (u2 := .slice y3 (ln G.den) (ln G.den)) (by omega)).trans hHeld.2.1, (set3_far (w := w3) (c := w.heap.size + 1 + 1) (b := w.heap.size) (o := 2) (u0 := .bool (ng G.num)) (u1 := .slice x3 (ln (am G.num)) (ln (am G.num))) (u2 := .slice y3 (ln G.den) (ln G.den)) (by omega)).trans hHeld.2.2.1, (set3_far (w := w3) (c := w.heap.size + 1 + 1) (b := w1.heap.size) (o := 2) (u0 := .bool (ng G.num)) (u1 := .slice x3 (ln (am G.num)) (ln (am G.num))) (u2 := .slice y3 (ln G.den) (ln G.den)) (by omega)).trans hHeld.2.2.2⟩ : _ ∧ _ ∧ _ ∧ _)
  have rD := rA.put (u0 := .bool (ng G.num)) (u1 := .slice x3 (ln (am G.num)) (ln (am G.num))) (u2 := .slice y3 (ln G.den) (ln G.den))
  go_simp
  clear t0 t1 t2 fz rA
  refine hKK.out _ _ hH2 ?_
  clear hHeld
  intro hHeld
  clear hKK KK
  try simp only [Act.put, List.setIfInBounds_toArray, List.set_cons_zero, List.set_cons_succ]
  clear hH2
  try unfold set3 at g8
  try unfold set3 at g9
  try unfold set3 at rD
  try unfold set3 at hB
  try unfold set3 at hHeld
  generalize (((w3.setCell ⟨w.heap.size + 1 + 1, 0, none⟩ (.bool (ng G.num))).setCell ⟨w.heap.size + 1 + 1, 1, none⟩ (.slice x3 (ln (am G.num)) (ln (am G.num)))).setCell ⟨w.heap.size + 1 + 1, 2, none⟩ (.slice y3 (ln G.den) (ln G.den))) = w9 at g8 g9 rD hB hHeld ⊢
  refine wpAnyH_done (by kernel_rfl) ?_ _
  obtain ⟨⟨v0, v1, v2⟩, vR⟩ := rD
  go_wp2
  refine bodyPost_ret (v := .agg #[.bool (ng G.num), .slice x3 (ln (am G.num)) (ln (am G.num)), .slice y3 (ln G.den) (ln G.den)]) (by rw [results_cell rfl]; go_simp) rfl ?_
  exact ⟨x3, y3, rfl, hB, g8, Nat.le_refl _, k3.2.2.1, g9, Nat.le_refl _, k3.2.2.2.2.2⟩

/-- an answer that is the content of a list, on the side of c -/
def CAns (w : World) (l : List Rat) (c : Rat) (e : Ending) (w' : World) : Prop := ∃ g, Ct g l ∧ 0 < g * c ∧ QA w g e w'
theorem ct_side {g h c : Rat} (a : 0 < g * c) : 0 < g * (((h / g).den : Nat) : Rat)⁻¹ * c := by
  have e : g * (((h / g).den : Nat) : Rat)⁻¹ * c = g * c * (((h / g).den : Nat) : Rat)⁻¹ := by grind
  rw [e]
  exact Rat.mul_pos a (inv_pos' (h / g).den_pos)
set_option maxHeartbeats 2000000 in
set_option maxRecDepth 100000 in
theorem byHalvesC_many (b off len cap h : Nat) (p : Option Addr) (n c : Nat) (p' : Option Addr) (m e : Nat) (s : Bool) (l1 l2 : List Rat) (c1 c2 : Rat) (w : World) (hlen : 2 ≤ len) (hcap : len ≤ cap) (hmax : cap ≤ 9223372036854775807) (hh : h = len / 2)
    (hs1 : ∀ g, Ct g l1 → sz 10000000 g) (hs2 : ∀ g, Ct g l2 → sz 10000000 g) (hs3 : ∀ g, Ct g (l1 ++ l2) → sz 10000000 g)
    (H1 : ∀ w', Below w.heap.size w w' → Calls Tryz.prog 16 #[.slice (some ⟨b, off, none⟩) h cap, .agg #[.bool s, .slice p n c, .slice p' m e], .func (.func 18) #[] #[]] w' (CAns w' l1 c1))
    (H2 : ∀ w', Below w.heap.size w w' → Calls Tryz.prog 16 #[.slice (some ⟨b, off + h * 3, none⟩) (len - h) (cap - h), .agg #[.bool s, .slice p n c, .slice p' m e], .func (.func 18) #[] #[]] w' (CAns w' l2 c2)) :
    Calls Tryz.prog 16 #[.slice (some ⟨b, off, none⟩) len cap, .agg #[.bool s, .slice p n c, .slice p' m e], .func (.func 18) #[] #[]] w (CAns w (l1 ++ l2) c1) := by
  have G1 := hide' H1
  have G2 := hide' H2
  have G3 := hide' (fun (w' : World) (g1 g2 : Rat) (x1 y1 x2 y2 : Option Addr) (a1 : Ct g1 l1) (a2 : 0 < g1 * c1) (a3 : Ct g2 l2) (k1 : (nR g1 x1 y1).ok w') (k2 : (nR g2 x2 y2).ok w') =>
    (common_is (nR g1 x1 y1) (nR g2 x2 y2) (g2 / g1) (g1 * (((g2 / g1).den : Nat) : Rat)⁻¹) w' k1 k2 ⟨Nat.le_trans (hs1 g1 a1).1 (by omega), Nat.le_trans (hs1 g1 a1).2 (by omega), Nat.le_trans (hs2 g2 a3).1 (by omega), Nat.le_trans (hs2 g2 a3).2 (by omega)⟩ (by rw [nR_val]; exact a1.1) (by rw [nR_val, nR_val])
      (by rw [Rat.div_def]; exact (sz_mulY (hs2 g2 a3) (szInv (hs1 g1 a1) a1.1)).mono (by omega)) (by rw [nR_val]) ((hs3 _ (Ct.two a1 a3)).mono (by omega))).mono (fun e w'' hq => (⟨_, Ct.two a1 a3, ct_side a2, hq⟩ : CAns w' (l1 ++ l2) c1 e w'')))
  clear H1 H2 hs1 hs2 hs3
  have e0 : ¬ ((len : Int) = 0) := by omega
  have e1 : ¬ ((len : Int) = 1) := by omega
  have eh : wrap64 ((len : Int) / 2) = (h : Int) := by rw [wrap64_small (by omega) (by omega)]; omega
  have i0 : (0 : Int) ≤ (h : Int) := by omega
  have i1 : (h : Int) ≤ (cap : Int) := by omega
  have i2 : (h : Int) ≤ (len : Int) := by omega
  have i3 : (len : Int) ≤ (cap : Int) := by omega
  have i4 : h ≤ len := by omega
  have i5 : h ≤ cap := by omega
  have sl1 := sl_head b off len cap h i5
  have sl2 := sl_rest b off len cap h i4 (by omega)
  go_enter Tryz.func16, Tryz.ntmps16
  go_wp2_with fail
  rw [show (len : Int) / 2 = (h : Int) by omega]
  clear hh eh e0 e1
  obtain ⟨W, hW⟩ : ∃ W, ((w.alloc (.cells #[.bool s, .slice p n c, .slice p' m e] 29)).alloc (.cells #[.bool false, .slice none 0 0, .slice none 0 0] 29)) = W := ⟨_, rfl⟩
  have q00 : W.cell? ⟨w.heap.size, 0, none⟩ = some (.bool s) := by subst hW; go_simp
  have q01 : W.cell? ⟨w.heap.size, 1, none⟩ = some (.slice p n c) := by subst hW; go_simp
  have q02 : W.cell? ⟨w.heap.size, 2, none⟩ = some (.slice p' m e) := by subst hW; go_simp
  have r00 : W.cell? ⟨w.heap.size + 1, 0, none⟩ = some (.bool false) := by subst hW; go_simp
  have r01 : W.cell? ⟨w.heap.size + 1, 1, none⟩ = some (.slice none 0 0) := by subst hW; go_simp
  have r02 : W.cell? ⟨w.heap.size + 1, 2, none⟩ = some (.slice none 0 0) := by subst hW; go_simp
  have hB : Below w.heap.size w W := by subst hW; exact (((Below.refl _ _).alloc (by (try simp only [World.size_alloc]); omega) _).alloc (by (try simp only [World.size_alloc]); omega) _)
  have hR0 : Row W (w.heap.size + 1) := by
    have := row_new ((w.alloc (.cells #[.bool s, .slice p n c, .slice p' m e] 29))) #[.bool false, .slice none 0 0, .slice none 0 0] 29
    try simp only [World.size_alloc] at this
    subst hW; exact this
  have hz : W.heap.size = w.heap.size + 1 + 1 := by subst hW; simp only [World.size_alloc]
  rw [hW]
  clear hW
  have hBW : Below W.heap.size W W := Below.refl _ _
  replace hBW := hBW.drew
  first
    | go_region_held3 (fun w' => w'.cell? ⟨w.heap.size, 0, none⟩ = some (.bool s) ∧ w'.cell? ⟨w.heap.size, 1, none⟩ = some (.slice p n c) ∧ w'.cell? ⟨w.heap.size, 2, none⟩ = some (.slice p' m e) ∧ Below w.heap.size w w')
        (first | exact ⟨q00, q01, q02, hB.trans (hBW.mono hB.size)⟩ | exact kp3 b1 (by assumption) | exact kp3 b2 (by assumption) | exact kp3 b3 (by assumption) | exact kp3 (below_alloc _) (by assumption) | exact kp3 (below_alloc _) ⟨q00, q01, q02, hB.trans (hBW.mono hB.size)⟩ | exact kpT3_3 (by assumption) (by omega) (by omega) (by omega) (by omega))
        (first
          | (go_at_call 16; go_at_call_of 16 (Value.slice (some ⟨b, off, none⟩) h cap); (fail_if_success clear b1); refine (G1.out _ (hB.trans (hBW.mono hB.size))).mono ?_; rintro e w1 ⟨u1, ct1, cs1, x1, y1, rfl, g1, k1⟩; have b1 := g1; replace hBW := hBW.trans (b1.mono hBW.size); replace q00 := below_cell b1 q00; replace q01 := below_cell b1 q01; replace q02 := below_cell b1 q02; replace r00 := below_cell b1 r00; replace r01 := below_cell b1 r01; replace r02 := below_cell b1 r02; replace hR0 := below_row b1 hR0)
          | (go_at_call 16; go_at_call_of 16 (Value.slice (some ⟨b, off + h * 3, none⟩) (len - h) (cap - h)); (fail_if_success clear b2); refine (G2.out _ (hB.trans (hBW.mono hB.size))).mono ?_; rintro e w2 ⟨u2, ct2, cs2, x2, y2, rfl, g2, k2⟩; have b2 := g2; replace hBW := hBW.trans (b2.mono hBW.size); replace q00 := below_cell b2 q00; replace q01 := below_cell b2 q01; replace q02 := below_cell b2 q02; replace r00 := below_cell b2 r00; replace r01 := below_cell b2 r01; replace r02 := below_cell b2 r02; replace hR0 := below_row b2 hR0; replace k1 := k1.later b2)
          | (go_at_call 18; (fail_if_success clear b3); refine (G3.out _ u1 u2 x1 y1 x2 y2 ct1 cs1 ct2 k1 k2).mono ?_; rintro e w3 ⟨u3, ct3, cs3, x3, y3, rfl, g3, kx3, _, hl1, ky3, _, hl2⟩; have b3 := g3; replace hBW := hBW.trans (b3.mono hBW.size); replace q00 := below_cell b3 q00; replace q01 := below_cell b3 q01; replace q02 := below_cell b3 q02; replace r00 := below_cell b3 r00; replace r01 := below_cell b3 r01; replace r02 := below_cell b3 r02; replace hR0 := below_row b3 hR0; replace k1 := k1.later b3; replace k2 := k2.later b3; have fz := fun o => hR0.frozen o))
    | fail
  have fz0 := fun o => hR0.frozen o
  go_wp2
  all_goals refine bodyPost_ret (v := Value.agg #[Value.bool (ng u3.num), Value.slice x3 (ln (am u3.num)) (ln (am u3.num)), Value.slice y3 (ln u3.den) (ln u3.den)]) (by rw [results_cell rfl]; go_simp) rfl ?_
  all_goals exact ⟨u3, ct3, cs3, x3, y3, rfl, ((bset (bset (bset (hB.trans (hBW.mono hB.size)) (by omega)) (by omega)) (by omega))), kx3.setR r00 r01 r02, Nat.le_refl _, hl1, ky3.setR r00 r01 r02, Nat.le_refl _, hl2⟩
theorem lv_add (q : Nat → RatV) (i j : Nat) : lv q (i + j) = lv q i ++ lv (fun t => q (i + t)) j := by
  unfold lv
  rw [List.range_add, List.map_append, List.map_map]
  rfl
theorem byHalvesC_is : ∀ (k len : Nat) (a : Option Addr) (cap : Nat) (q : Nat → RatV) (s : Bool) (p : Option Addr) (n c : Nat) (p' : Option Addr) (m e : Nat) (w : World), len ≤ k → 0 < len → len ≤ cap → cap ≤ 9223372036854775807 → RatsAt w a len q → (∀ i, i < len → (q i).ok w) → (∀ i, i < len → (q i).low) → (∀ i, i < len → (q i).val ≠ 0) →
    (∀ i j g, i + j ≤ len → Ct g (lv (fun t => q (i + t)) j) → sz 10000000 g) →
    Calls Tryz.prog 16 #[.slice a len cap, .agg #[.bool s, .slice p n c, .slice p' m e], .func (.func 18) #[] #[]] w (CAns w (lv q len) (q 0).val)
  | 0, len, a, cap, q, s, p, n, c, p', m, e, w, hk, hp, hc, hm, hA, ho, hlo, hz, hs => by omega
  | k + 1, len, a, cap, q, s, p, n, c, p', m, e, w, hk, hp, hc, hm, hA, ho, hlo, hz, hs => by
    obtain ⟨b, off, rfl, hlt, hcell⟩ := hA (by omega)
    rcases Nat.lt_or_ge len 2 with h1 | h1
    · obtain rfl : len = 1 := by omega
      have hq := hlo 0 (by omega)
      have hok := ho 0 (by omega)
      have hz0 := hz 0 (by omega)
      have hl0 := hcell 0 (by omega)
      rw [Nat.zero_mul, Nat.add_zero] at hl0
      have e0 : lv q 1 = [(q 0).val] := rfl
      have ev := low_val hq
      rw [e0]
      refine (byHalves_one b off cap (q 0) s p n c p' m e _ w hlt hl0).mono ?_
      rintro r w' ⟨rfl, hb⟩
      have s1 := hok.1.later hb
      have s2 := hok.2.2.2.1.later hb
      have f1 : (q 0).X = am (q 0).val.num := congrArg RatV.X ev
      have f2 : (q 0).Y = (q 0).val.den := congrArg RatV.Y ev
      have f3 : (q 0).s = ng (q 0).val.num := congrArg RatV.s ev
      have n1 := hok.2.2.1
      have n2 := hok.2.2.2.2.2
      rw [hq.hn, f1] at s1 n1
      rw [hq.hm, f2] at s2 n2
      refine ⟨(q 0).val, Ct.one hz0, ?_, (q 0).a, (q 0).b, ?_, hb, s1, Nat.le_refl _, n1, s2, Nat.le_refl _, n2⟩
      · rcases (show (q 0).val < 0 ∨ 0 < (q 0).val by grind) with h | h
        · have := Rat.mul_pos (show (0 : Rat) < -(q 0).val by grind) (show (0 : Rat) < -(q 0).val by grind)
          grind
        · exact Rat.mul_pos h h
      · rw [hq.hn, hq.hc, hq.hm, hq.he, f1, f2, ← f3]
    · obtain ⟨h, hh⟩ : ∃ h, h = len / 2 := ⟨_, rfl⟩
      obtain ⟨j, hj⟩ : ∃ j, len = h + j := ⟨len - h, by omega⟩
      have hsum : lv q len = lv q h ++ lv (fun i => q (h + i)) j := by rw [hj, lv_add]
      have e1 : (fun t => q (0 + t)) = q := funext fun t => by rw [Nat.zero_add]
      rw [hsum]
      refine byHalvesC_many b off len cap h p n c p' m e s (lv q h) (lv (fun i => q (h + i)) j) (q 0).val (q h).val w h1 hc hm hh (fun g hg => hs 0 h g (by omega) (by rw [e1]; exact hg)) (fun g hg => hs h j g (by omega) hg) (fun g hg => hs 0 len g (by omega) (by rw [e1, hsum]; exact hg)) (fun w' hb => ?_) (fun w' hb => ?_)
      · exact byHalvesC_is k h _ cap q s p n c p' m e w' (by omega) (by omega) (by omega) hm (fun _ => ⟨b, off, rfl, Nat.lt_of_lt_of_le hlt hb.size, fun i hi => (hcell i (by omega)).later hb⟩) (fun i hi => (ho i (by omega)).later hb) (fun i hi => hlo i (by omega)) (fun i hi => hz i (by omega)) (fun i j' g hi => hs i j' g (by omega))
      · rw [show len - h = j by omega]
        refine byHalvesC_is k j _ (cap - h) (fun i => q (h + i)) s p n c p' m e w' (by omega) (by omega) (by omega) (by omega) (fun _ => ⟨b, off + h * 3, rfl, Nat.lt_of_lt_of_le hlt hb.size, fun i hi => ?_⟩) (fun i hi => (ho (h + i) (by omega)).later hb) (fun i hi => hlo (h + i) (by omega)) (fun i hi => hz (h + i) (by omega)) (fun i j' g hi hg => ?_)
        · have := (hcell (h + i) (by omega)).later hb
          rw [show off + h * 3 + i * 3 = off + (h + i) * 3 by omega]
          exact this
        · refine hs (h + i) j' g (by omega) ?_
          have e : (fun t => q (h + i + t)) = fun t => q (h + (i + t)) := funext fun t => by rw [Nat.add_assoc]
          rw [e]
          exact hg
end Go.Proofs.YtkfhllonjgcbkaaGreat

namespace Go.Proofs.YtkfhllonjgcbkaaGreat
open Go.RowKit
set_option linter.unusedVariables false
set_option linter.unusedSimpArgs false

/-- all sums of parts that stand side by side can be added -/
def fine (l : Fo) : Prop := ∀ i j x, sz 1099511627776 (co x ((l.drop i).take j))
theorem fine.all {l : Fo} (h : fine l) : ∀ x, sz 1099511627776 (co x l) := fun x => by
  have := h 0 l.length x
  rwa [List.drop_zero, List.take_length] at this
theorem fine.take {l : Fo} (h : fine l) (k : Nat) : fine (l.take k) := fun i j x => by
  rw [List.drop_take, List.take_take]
  exact h i _ x
theorem fine.drop {l : Fo} (h : fine l) (k : Nat) : fine (l.drop k) := fun i j x => by
  rw [List.drop_drop]
  exact h _ j x
theorem co_part (l : Fo) (i j : Nat) : wts ((l.drop i).take j) ≤ wts l := by
  have h1 : wts l = wts (l.take i) + wts (l.drop i) := by rw [← wts_append, List.take_append_drop]
  have h2 : wts (l.drop i) = wts ((l.drop i).take j) + wts ((l.drop i).drop j) := by rw [← wts_append, List.take_append_drop]
  omega
theorem sz_mul {r t : Rat} {N M : Nat} (h : sz N r) (k : sz M t) : sz (N + M) (r * t) := by
  have e : r * t = Rat.divInt (r.num * t.num) ((r.den : Int) * (t.den : Int)) := by
    rw [← Rat.divInt_mul_divInt, Rat.num_divInt_den, Rat.num_divInt_den]
  have hl := (low_of (Int.mul_ne_zero (by have := r.den_pos; omega) (by have := t.den_pos; omega)) e).le
  have a1 := lt_prod (i := N) (j := M) (Nat.lt_of_lt_of_le (ln_lt (am r.num)) (pow_mono h.1)) (Nat.lt_of_lt_of_le (ln_lt (am t.num)) (pow_mono k.1))
  have a2 : am ((r.den : Int) * (t.den : Int)) < BB ^ (N + M) := lt_prod (by show r.den < _; exact Nat.lt_of_lt_of_le (ln_lt r.den) (pow_mono h.2)) (by show t.den < _; exact Nat.lt_of_lt_of_le (ln_lt t.den) (pow_mono k.2))
  exact ⟨ln_le_of_lt (Nat.lt_of_le_of_lt hl.1 a1), ln_le_of_lt (Nat.lt_of_le_of_lt hl.2 a2)⟩
theorem fine_scale {c : Rat} {l : Fo} {N : Nat} (hc : sz N c) (h : N + (wts l + 1) ≤ 1099511627776) : fine (fmap (fun r => c * r) l) := fun i j x => by
  have e : ((fmap (fun r => c * r) l).drop i).take j = fmap (fun r => c * r) ((l.drop i).take j) := by
    unfold fmap
    rw [List.map_take, List.map_drop]
  rw [e, co_scale]
  have h2 := co_part l i j
  exact (sz_mul hc (co_sz x _)).mono (by omega)
theorem entS_sz {w : World} {R : List Mo} {l : Fo} (hE : ∀ p ∈ R, Ent w p) (hR : fo R = nfm l) (hs : ∀ x, sz 1099511627776 (co x l)) : ∀ p ∈ R, EntS w p := by
  intro p hp
  have h1 : (p.1, p.2.val) ∈ fo R := List.mem_map.2 ⟨p, hp, rfl⟩
  have h2 : co p.1 (fo R) = p.2.val := (show nrm (fo R) by rw [hR]; exact nfm_nrm l).co_mem h1
  rw [hR, nfm_co] at h2
  have h3 := hs p.1
  rw [h2] at h3
  obtain ⟨e1, e2⟩ := low_ns (hE p hp).low
  exact ⟨hE p hp, by rw [e1]; exact h3.1, by rw [e2]; exact h3.2⟩

set_option maxHeartbeats 4000000 in
set_option maxRecDepth 100000 in
theorem collect_manyF (b off : Nat) (c : Nat) (n h : Nat) (l1 l2 : Fo) (w : World) (hn : 2 ≤ n) (hnc : n ≤ c) (hm : n ≤ 1048576) (hh : h = n / 2)
    (H0 : ∀ w', Below w.heap.size w w' → Calls Tryz.prog 59 #[.slice (some ⟨b, off, none⟩) n c] w' fun e w'' => e = .returned (.bool false) ∧ Below w'.heap.size w' w'')
    (H1 : ∀ w', Below w.heap.size w w' → Calls Tryz.prog 29 #[.slice (some ⟨b, off, none⟩) h c] w' (FAns w' (nfm l1)))
    (H2 : ∀ w', Below w.heap.size w w' → ∀ a2, (h < n → a2 = some ⟨b, off + h * 4, none⟩) → a2 ≠ none → Calls Tryz.prog 29 #[.slice a2 (n - h) (c - h)] w' (FAns w' (nfm l2)))
    (w1 : ∀ x, sz 1099511627776 (co x l1)) (w2 : ∀ x, sz 1099511627776 (co x l2)) (n1 : l1.length + l2.length ≤ 2097152) :
    Calls Tryz.prog 29 #[.slice (some ⟨b, off, none⟩) n c] w (FAns w (nfm (l1 ++ l2))) := by
  have G0 := hide' (H0 w (Below.refl _ _))
  have G1 := hide' H1
  have G2 := hide' H2
  have S1 := hide' w1
  have S2 := hide' w2
  have e0 : ¬ ((n : Int) = 1) := by omega
  have eh : wrap64 ((n : Int) / 2) = (h : Int) := by rw [wrap64_small (by omega) (by omega)]; omega
  have i0 : (0 : Int) ≤ (h : Int) := by omega
  have i1 : (h : Int) ≤ (c : Int) := by omega
  have i2 : (h : Int) ≤ (n : Int) := by omega
  have i3 : (n : Int) ≤ (c : Int) := by omega
  have sl1 := sl_headF b off n c h (by omega)
  obtain ⟨a2, sl2, sn, sl3⟩ := sl_restF b off n c h (by omega) hnc
  have G4 := hide' (And.intro sl3 sn)
  clear H0 H1 H2 sl3 sn w1 w2
  go_enter Tryz.func29, Tryz.ntmps29
  go_wp2_with fail
  refine G0.out.mono ?_
  rintro e w3 ⟨rfl, hB⟩
  go_wp2_with fail
  rw [show (n : Int) / 2 = (h : Int) by omega]
  clear hh eh e0
  have bD : Below w3.heap.size w3 w3.drew := (Below.refl _ _).drew
  replace hB := hB.trans (bD.mono hB.size)
  refine wp_region_held_drew (S := fun w' => True) (by kernel_rfl) trivial (fun hHeld => ?_)
  generalize w3.drew = w0 at bD hB hHeld ⊢
  clear bD
  refine take' 0 (v := ?_) rfl (by kernel_rfl) (by kernel_rfl) (by kernel_rfl) (fun _ _ _ h => h) (Or.inl ⟨by rfl, ?_⟩) (by assumption) ?_
  rotate_left
  · intro w9 hSw
    go_simp
    first | done | with_reducible rfl
  simp only [Act.put, List.setIfInBounds_toArray, List.set_cons_zero, List.set_cons_succ]
  refine take' 1 (v := ?_) rfl (by kernel_rfl) (by kernel_rfl) (by kernel_rfl) (fun _ _ _ h => h) (Or.inl ⟨by rfl, ?_⟩) (by assumption) ?_
  rotate_left
  · intro w9 hSw
    go_simp
    first | done | with_reducible rfl
  simp only [Act.put, List.setIfInBounds_toArray, List.set_cons_zero, List.set_cons_succ]
  refine take' 2 (v := ?_) rfl (by kernel_rfl) (by kernel_rfl) (by kernel_rfl) (fun _ _ _ h => h) (Or.inl ⟨by rfl, ?_⟩) (by assumption) ?_
  rotate_left
  · intro w9 hSw
    go_simp
    first | done | with_reducible rfl
  simp only [Act.put, List.setIfInBounds_toArray, List.set_cons_zero, List.set_cons_succ]
  refine take' 4 (v := ?_) rfl (by kernel_rfl) (by kernel_rfl) (by kernel_rfl) (fun _ _ _ h => h) (Or.inl ⟨by rfl, ?_⟩) (by assumption) ?_
  rotate_left
  · intro w9 hSw
    go_simp
    first | done | with_reducible rfl
  simp only [Act.put, List.setIfInBounds_toArray, List.set_cons_zero, List.set_cons_succ]
  refine take' 5 (v := ?_) rfl (by kernel_rfl) (by kernel_rfl) (by kernel_rfl) (fun _ _ _ h => h) (Or.inl ⟨by rfl, ?_⟩) (by assumption) ?_
  rotate_left
  · intro w9 hSw
    go_simp
    first | done | with_reducible rfl
  simp only [Act.put, List.setIfInBounds_toArray, List.set_cons_zero, List.set_cons_succ]
  refine take' 6 (v := ?_) rfl (by kernel_rfl) (by kernel_rfl) (by kernel_rfl) (fun _ _ _ h => h) (Or.inl ⟨by rfl, ?_⟩) (by assumption) ?_
  rotate_left
  · intro w9 hSw
    go_simp
    first | done | with_reducible rfl
  simp only [Act.put, List.setIfInBounds_toArray, List.set_cons_zero, List.set_cons_succ]
  refine wpAnyH_ready (rs := [3]) (by kernel_rfl) (by simp) ?_
  refine cons' rfl (fun KK hKK => ?_)
  go_simp
  refine (G1.out _ hB).mono ?_
  rintro e w4 ⟨a4, c4, R4, rfl, b4, s4, e4, f4⟩
  go_wp2_with fail
  replace hB := hB.trans (b4.mono hB.size)
  clear b4
  refine hKK.out _ _ hHeld ?_
  clear hHeld
  intro hHeld
  clear hKK KK
  try simp only [Act.put, List.setIfInBounds_toArray, List.set_cons_zero, List.set_cons_succ]
  refine wpAnyH_ready (rs := [7]) (by kernel_rfl) (by simp) ?_
  refine cons' rfl (fun KK hKK => ?_)
  go_simp
  refine (G2.out _ hB a2 G4.out.1 G4.out.2).mono ?_
  rintro e w5 ⟨a5, c5, R5, rfl, b5, s5, e5, f5⟩
  go_wp2_with fail
  replace hB := hB.trans (b5.mono hB.size)
  replace s4 := s4.later b5
  replace e4 := fun p hp => (e4 p hp).later b5
  clear b5
  refine hKK.out _ _ hHeld ?_
  clear hHeld
  intro hHeld
  clear hKK KK
  try simp only [Act.put, List.setIfInBounds_toArray, List.set_cons_zero, List.set_cons_succ]
  refine wpAnyH_ready (rs := [8]) (by kernel_rfl) (by simp) ?_
  refine cons' rfl (fun KK hKK => ?_)
  have hl4 := nfm_length l1
  have hl5 := nfm_length l2
  rw [← f4, fo_length] at hl4
  rw [← f5, fo_length] at hl5
  go_simp
  refine (lsum_is a4 c4 R4 a5 c5 R5 _ s4 s5 (entS_sz e4 f4 S1.out) (entS_sz e5 f5 S2.out) (by omega)).mono ?_
  rintro e w6 ⟨a6, c6, R6, rfl, b6, s6, e6, f6⟩
  go_wp2_with fail
  replace hB := hB.trans (b6.mono hB.size)
  refine hKK.out _ _ hHeld ?_
  clear hHeld
  intro hHeld
  clear hKK KK
  try simp only [Act.put, List.setIfInBounds_toArray, List.set_cons_zero, List.set_cons_succ]
  refine take' 9 (v := ?_) rfl (by kernel_rfl) (by kernel_rfl) (by kernel_rfl) (fun _ _ _ h => h) (Or.inl ⟨by rfl, ?_⟩) (by assumption) ?_
  rotate_left
  · intro w9 hSw
    go_simp
    first | done | with_reducible rfl
  simp only [Act.put, List.setIfInBounds_toArray, List.set_cons_zero, List.set_cons_succ]
  refine wpAnyH_done (by kernel_rfl) ?_ _
  go_wp2
  go_ret
  exact ⟨a6, c6, R6, rfl, hB, s6, e6, by rw [f6, f4, f5, nfm_append]⟩
theorem fo_take (L : List Mo) (k : Nat) : fo (L.take k) = (fo L).take k := by unfold fo; rw [List.map_take]
theorem fo_drop (L : List Mo) (k : Nat) : fo (L.drop k) = (fo L).drop k := by unfold fo; rw [List.map_drop]
theorem collectF_is : ∀ (k : Nat) (L : List Mo) (a : Option Addr) (c : Nat) (w : World), L.length ≤ k → Sl w a c L → (∀ p ∈ L, Ent w p) → L.length ≤ 1048576 → fine (fo L) →
    Calls Tryz.prog 29 #[.slice a L.length c] w (FAns w (nfm (fo L)))
  | k, L, a, c, w, hk, hS, hE, hm, hw => by
    by_cases hN : nrm (fo L)
    · refine (collect_norm a c L.length w ((isNormal_is a c L w hS.lies hE hS.len hm).mono fun e w' ⟨d, he, hd, hb⟩ => ⟨by rw [he, hd.2 hN], hb⟩)).mono ?_
      rintro e w' ⟨rfl, hb⟩
      exact ⟨a, c, L, rfl, hb, hS.later hb, fun p hp => (hE p hp).later hb, nfm_self hN⟩
    · match L, hk, hS, hE, hm, hw, hN with
      | [], _, _, _, _, _, hN => exact absurd nrm.nil hN
      | [p], _, hS, hE, hm, hw, hN =>
        have hno := isNormal_no hS.lies hE hS.len hm hN
        rw [show ([p] : List Mo).length = 1 from rfl] at hno ⊢
        refine (collect_one a c w hno).mono ?_
        rintro e w' ⟨rfl, hb⟩
        exact ⟨none, 0, [], rfl, hb, ⟨FAt.nil _ _, Nat.le_refl _, fun _ => rfl⟩, fun q hq => absurd hq (by simp), (nfm_single hN).symm⟩
      | p :: q :: L', hk, hS, hE, hm, hw, hN =>
        match k, hk with
        | 0, hk => simp only [List.length_cons] at hk; omega
        | k + 1, hk =>
          obtain ⟨L, hL⟩ : ∃ L, p :: q :: L' = L := ⟨_, rfl⟩
          have h2 : 2 ≤ L.length := by rw [← hL]; simp
          rw [hL] at hk hS hE hm hw hN ⊢
          obtain ⟨b, off, rfl, _, _⟩ := hS.lies (by intro e; rw [e] at h2; simp at h2)
          obtain ⟨h, hh⟩ : ∃ h, h = L.length / 2 := ⟨_, rfl⟩
          have hsplit : fo L = fo (L.take h) ++ fo (L.drop h) := by rw [← fo_append, List.take_append_drop]
          have hlt : (L.take h).length = h := by rw [List.length_take]; omega
          have hld : (L.drop h).length = L.length - h := List.length_drop
          have w1 : fine (fo (L.take h)) := by rw [fo_take]; exact hw.take h
          have w2 : fine (fo (L.drop h)) := by rw [fo_drop]; exact hw.drop h
          rw [hsplit]
          refine collect_manyF b off c L.length h (fo (L.take h)) (fo (L.drop h)) w h2 hS.len hm hh (fun w' hb => isNormal_no (hS.lies.later hb) (fun p hp => (hE p hp).later hb) hS.len hm hN) (fun w' hb => ?_) (fun w' hb a2 ha hne => ?_) w1.all w2.all (by rw [fo_length, fo_length]; omega)
          · have := collectF_is k (L.take h) (some ⟨b, off, none⟩) c w' (by omega) ⟨(hS.lies.take h).later hb, by have := hS.len; omega, fun e => by cases e⟩ (fun p hp => (hE p (List.mem_of_mem_take hp)).later hb) (by omega) w1
            rw [hlt] at this
            exact this
          · have := collectF_is k (L.drop h) a2 (c - h) w' (by omega) ⟨fun hn => by rw [ha (by omega)]; exact ((hS.lies.drop h).later hb) hn, by have := hS.len; omega, fun e => absurd e hne⟩ (fun p hp => (hE p (List.mem_of_mem_drop hp)).later hb) (by omega) w2
            rw [hld] at this
            exact this
termination_by k => k

set_option maxHeartbeats 2000000 in
set_option maxRecDepth 100000 in
theorem lScaleF_is (C : RatV) (a : Option Addr) (c : Nat) (L : List Mo) (K : Nat) (w : World) (hF : FAt w a L) (hok : ∀ p ∈ L, p.2.ok w) (hc : L.length ≤ c) (hm : L.length ≤ 1048576) (hC : C.ok w) (hK : ∀ p ∈ L, C.n + C.m + p.2.n + p.2.m ≤ K) (hCK : C.n + C.m ≤ K) (hKm : K ≤ 274877906944) (hf : fine (fmap (fun r => C.val * r) (fo L))) :
    Calls Tryz.prog 9 #[.agg #[.bool C.s, .slice C.a C.n C.c, .slice C.b C.m C.e], .slice a L.length c] w (FAns w (nfm (fmap (fun r => C.val * r) (fo L)))) := by
  have G1 := hide' (fun w' (hb : Below w.heap.size w w') => times_is C a c L K w' (hF.later hb) (fun p hp => (hok p hp).later hb) hc hm (hC.later hb) hK hCK hKm)
  have G2 := hide' (fun w' a2 c2 (R : List Mo) (hs : Sl w' a2 c2 R) (hE : ∀ p ∈ R, Ent w' p) (h9 : fo R = fmap (fun r => C.val * r) (fo L)) => collectF_is R.length R a2 c2 w' (Nat.le_refl _) hs hE (by have h := congrArg List.length h9; rw [fo_length, fmap_length, fo_length] at h; omega) (by rw [h9]; exact hf))
  clear hF hok hc hm hC hK hCK hKm hf
  go_enter Tryz.func9, Tryz.ntmps9
  go_wp2_with fail
  obtain ⟨wA, hwA⟩ : ∃ wA, w.alloc (.cells #[.bool C.s, .slice C.a C.n C.c, .slice C.b C.m C.e] 29) = wA := ⟨_, rfl⟩
  have bA : Below w.heap.size w wA := by subst hwA; exact below_alloc _
  rw [hwA]
  clear hwA
  refine (G1.out _ bA).mono ?_
  rintro e w1 ⟨a1, c1, R1, rfl, b1, s1, e1, f1⟩
  go_wp2_with fail
  refine (G2.out _ a1 c1 R1 s1 e1 f1).mono ?_
  rintro e w2 h2
  have h3 := h2.from (bA.trans (b1.mono bA.size))
  obtain ⟨a2, c2, R2, rfl, h4⟩ := h3
  rw [f1] at h4
  clear h2
  go_wp2
  go_ret
  exact ⟨a2, c2, R2, rfl, h4⟩
end Go.Proofs.YtkfhllonjgcbkaaGreat

namespace Go.Proofs.YtkfhllonjgcbkaaGreat
set_option linter.unusedVariables false
set_option linter.unusedSimpArgs false

/-- the product of all denominators -/
def dpr : Fo → Nat
  | [] => 1
  | p :: l => p.2.den * dpr l
theorem dpr_pos : ∀ (l : Fo), 0 < dpr l
  | [] => Nat.one_pos
  | p :: l => Nat.mul_pos p.2.den_pos (dpr_pos l)
theorem add_den_dvd {a b : Rat} {P : Nat} (ha : a.den ∣ P) (hb : b.den ∣ P) : (a + b).den ∣ P := by
  obtain ⟨k, hk⟩ := ha
  obtain ⟨j, hj⟩ := hb
  have e : (a + b) * (((P : Nat) : Int) : Rat) = ((a.num * (k : Int) + b.num * (j : Int) : Int) : Rat) := by
    rw [Rat.intCast_natCast, Rat.intCast_add, Rat.intCast_mul, Rat.intCast_mul, Rat.intCast_natCast, Rat.intCast_natCast, num_den a, num_den b]
    have e1 : (P : Rat) = (a.den : Rat) * (k : Rat) := by rw [hk]; exact Rat.natCast_mul _ _
    have e2 : (P : Rat) = (b.den : Rat) * (j : Rat) := by rw [hj]; exact Rat.natCast_mul _ _
    have e3 : (a + b) * (P : Rat) = a * (P : Rat) + b * (P : Rat) := by grind
    rw [e3]
    conv => lhs; arg 1; rw [e1]
    conv => lhs; arg 2; rw [e2]
    grind
  have := den_dvd_of e
  rwa [Int.natAbs_natCast] at this
theorem co_den (x : Int) : ∀ (l : Fo), (co x l).den ∣ dpr l
  | [] => by simp [co, dpr]
  | p :: l => by
    simp only [co, dpr]
    refine add_den_dvd ?_ (Nat.dvd_trans (co_den x l) (Nat.dvd_mul_left _ _))
    split
    · exact Nat.dvd_mul_right _ _
    · exact Nat.one_dvd _
theorem dpr_ln : ∀ (l : Fo), dpr l < BB ^ (wts l + 1)
  | [] => by simp [dpr, wts]; rw [BB_eq]; omega
  | p :: l => by
    simp only [dpr, wts, wt]
    have h1 := ln_lt p.2.den
    have h2 := dpr_ln l
    have h3 : p.2.den * dpr l < BB ^ (ln p.2.den) * BB ^ (wts l + 1) := Nat.mul_lt_mul'' h1 h2
    rw [← Nat.pow_add] at h3
    exact Nat.lt_of_lt_of_le h3 (pow_mono (by omega))
/-- how long a content of some coefficients is -/
theorem ct_sz {l : Fo} {s : List Rat} {g : Rat} (hs : ∀ c ∈ s, ∃ x, c = co x l) (hz : ∀ c ∈ s, c ≠ 0) (h : Ct g s) : sz (wts l + 1) g := by
  obtain ⟨c, hc⟩ : ∃ c, c ∈ s := by
    rcases s with _ | ⟨c, t⟩
    · exact absurd rfl h.some
    · exact ⟨c, List.mem_cons_self ..⟩
  refine ⟨?_, ?_⟩
  · obtain ⟨x, e⟩ := hs c hc
    have h1 := h.num_dvd hc
    have h2 : 0 < c.num.natAbs := Int.natAbs_pos.2 (fun e => hz c hc (Rat.num_eq_zero.1 e))
    have h3 : g.num.natAbs ≤ c.num.natAbs := Nat.le_of_dvd h2 h1
    have h4 := (co_sz x l).1
    rw [← e] at h4
    exact Nat.le_trans (ln_mono h3) h4
  · have h1 := h.den_dvd (P := dpr l) (fun c hc => by obtain ⟨x, rfl⟩ := hs c hc; exact co_den x l)
    exact ln_le_of_lt (Nat.lt_of_le_of_lt (Nat.le_of_dvd (dpr_pos l) h1) (dpr_ln l))

/-- g is how often the shape of the normal form l is taken -/
def Prm (l : Fo) (g : Rat) : Prop := (l = [] ∧ g = 1) ∨ ∃ p m, l = p :: m ∧ Ct g (l.map Prod.snd) ∧ 0 < g * p.2
theorem Prm.ne {l : Fo} {g : Rat} (h : Prm l g) : g ≠ 0 := by
  rcases h with ⟨_, rfl⟩ | ⟨p, m, _, h, _⟩
  · decide
  · exact h.1
theorem Prm.uniq {l : Fo} {g h : Rat} (a : Prm l g) (b : Prm l h) : h = g := by
  rcases a with ⟨rfl, rfl⟩ | ⟨p, m, rfl, a1, a2⟩
  · rcases b with ⟨_, rfl⟩ | ⟨p, m, e, _⟩
    · rfl
    · exact absurd e (by simp)
  · rcases b with ⟨e, _⟩ | ⟨p', m', e, b1, b2⟩
    · exact absurd e (by simp)
    · obtain ⟨rfl, rfl⟩ := List.cons.inj e
      rcases a1.uniq b1 with e | e
      · exact e
      · rw [e] at b2
        grind
theorem Prm.sz {l : Fo} {g : Rat} (h : Prm (nfm l) g) : sz (wts l + 1) g := by
  rcases h with ⟨_, rfl⟩ | ⟨p, m, e, h, _⟩
  · exact ⟨by show ln (am 1) ≤ _; rw [show am 1 = 1 from rfl, ln_one]; omega, by show ln 1 ≤ _; rw [ln_one]; omega⟩
  · refine ct_sz (l := l) (fun c hc => ?_) (fun c hc => ?_) h
    · obtain ⟨q, hq, rfl⟩ := List.mem_map.1 hc
      exact ⟨q.1, by rw [← nfm_co, (nfm_nrm l).co_mem hq]⟩
    · obtain ⟨q, hq, rfl⟩ := List.mem_map.1 hc
      exact (nfm_nrm l).2 q hq
theorem Ct.neg {g : Rat} {l : List Rat} (h : Ct g l) : Ct (-g) l := by
  obtain ⟨hg, zs, rfl, h1⟩ := h
  refine ⟨fun e => hg (by rw [← Rat.neg_neg g, e]; rfl), zs.map (fun z => (-1) * z), ?_, ?_⟩
  · rw [List.map_map]
    refine List.map_congr_left fun z _ => ?_
    show g * (z : Rat) = -g * (((-1) * z : Int) : Rat)
    rw [Rat.intCast_mul]
    have : ((-1 : Int) : Rat) = -1 := rfl
    rw [this]
    grind
  · rw [gcdl_mul, h1]
    rfl
/-- what a common denominator makes whole -/
theorem whole_mul {c : Rat} {D : Nat} (h : c.den ∣ D) : ((c * (D : Rat)).num : Rat) = c * (D : Rat) := by
  obtain ⟨k, rfl⟩ := h
  have e : c * (((c.den * k : Nat)) : Rat) = ((c.num * (k : Int) : Int) : Rat) := by
    rw [Rat.intCast_mul, Rat.intCast_natCast, num_den c, Rat.natCast_mul]
    grind
  rw [e, Rat.num_intCast]
/-- the reference's way to the content -/
theorem ref_prm {p : Int × Rat} {m : Fo} {D G : Nat} (hn : nrm (p :: m)) (hD : 0 < D) (hd : ∀ q ∈ p :: m, q.2.den ∣ D) (hG : gcdl ((p :: m).map fun q => (q.2 * (D : Rat)).num) = G) (b : Bool) (hb : b = decide (p.2 < 0)) :
    Prm (p :: m) (Rat.divInt (sg b G) (D : Int)) := by
  have hD' : (D : Rat) ≠ 0 := by have : D ≠ 0 := by omega
                                 exact_mod_cast this
  have hDp : (0 : Rat) < (D : Rat) := by exact_mod_cast hD
  have el : (p :: m).map Prod.snd = ((p :: m).map fun q => (q.2 * (D : Rat)).num).map (fun w : Int => (w : Rat) / (D : Rat)) := by
    rw [List.map_map]
    refine List.map_congr_left fun q hq => ?_
    show q.2 = ((q.2 * (D : Rat)).num : Rat) / (D : Rat)
    rw [whole_mul (hd q hq)]
    grind
  have h0 : p.2 ≠ 0 := hn.2 p (List.mem_cons_self ..)
  have hpos : 0 < gcdl ((p :: m).map fun q => (q.2 * (D : Rat)).num) := by
    rcases Nat.eq_zero_or_pos (gcdl ((p :: m).map fun q => (q.2 * (D : Rat)).num)) with e | e
    · have h1 := gcdl_dvd (l := (p :: m).map fun q => (q.2 * (D : Rat)).num) (z := (p.2 * (D : Rat)).num) (List.mem_map.2 ⟨p, List.mem_cons_self .., rfl⟩)
      rw [e] at h1
      have h2 : (p.2 * (D : Rat)).num = 0 := by have := Nat.eq_zero_of_zero_dvd h1; omega
      have h3 := whole_mul (hd p (List.mem_cons_self ..))
      rw [h2] at h3
      exact absurd (show p.2 * (D : Rat) = 0 from h3.symm) (fun e => by rcases Rat.mul_eq_zero.1 e with e | e; exact h0 e; exact hD' e)
    · exact e
  have hc := Ct.ref hD el hpos
  rw [hG] at hc hpos
  have hGp : (0 : Rat) < (G : Rat) := by exact_mod_cast hpos
  have hq : (0 : Rat) < (G : Rat) / (D : Rat) := by rw [Rat.div_def]; exact Rat.mul_pos hGp (Rat.inv_pos.2 hDp)
  refine Or.inr ⟨p, m, rfl, ?_⟩
  rw [Rat.divInt_eq_div, Rat.intCast_natCast]
  subst hb
  by_cases hs : p.2 < 0
  · have e : ((sg (decide (p.2 < 0)) G : Int) : Rat) / (D : Rat) = -((G : Rat) / (D : Rat)) := by
      rw [decide_eq_true hs]
      show (((-(G : Int)) : Int) : Rat) / (D : Rat) = _
      rw [Rat.intCast_neg, Rat.intCast_natCast]
      grind
    rw [e]
    refine ⟨hc.neg, ?_⟩
    have := Rat.mul_pos hq (show (0 : Rat) < -p.2 by grind)
    grind
  · have e : ((sg (decide (p.2 < 0)) G : Int) : Rat) / (D : Rat) = (G : Rat) / (D : Rat) := by
      rw [decide_eq_false hs]
      show (((G : Int)) : Rat) / (D : Rat) = _
      rw [Rat.intCast_natCast]
    rw [e]
    exact ⟨hc, Rat.mul_pos hq (by grind)⟩
theorem gcdl_snoc (l : List Int) (z : Int) : gcdl (l ++ [z]) = Nat.gcd (gcdl l) z.natAbs := by
  rw [gcdl_append]
  simp [gcdl]
end Go.Proofs.YtkfhllonjgcbkaaGreat

namespace Go.Proofs.YtkfhllonjgcbkaaGreat
open Go.RowKit
set_option linter.unusedVariables false
set_option linter.unusedSimpArgs false

theorem results_tc {fn : Func} {p u : Tmp} {ty : TypeId} (h : fn.results = #[.tmp u, .cell p ty]) (tmps : Array Value) (P : Program) (w : World) :
    (results fn tmps).run P w = ((asAddr (tmps.getD p undef)).run P w).andThen fun a w1 => ((loadVar ty a).run P w1).andThen fun v w2 => .ok (.tuple #[tmps.getD u undef, v]) w2 := by
  simp only [results, h]
  simp [Sem.run_bind]
/-- a form stays where a variable that holds a fraction is stored into -/
theorem Thr.fatB {w : World} {c : Nat} {u0 u1 u2 : Value} {z0 : Bool} {a1 a2 : Option Addr} {n1 k1 n2 k2 : Nat} (h : Thr w c (.bool z0) (.slice a1 n1 k1) (.slice a2 n2 k2)) {a : Option Addr} {L : List Mo} (hF : FAt w a L) : FAt (set3 w c u0 u1 u2) a L := fun hn => by
  obtain ⟨b, off, e, hl, hc⟩ := hF hn
  have hsz : (set3 w c u0 u1 u2).heap.size = w.heap.size := by simp only [set3, World.size_setCell]
  refine ⟨b, off, e, by rw [hsz]; exact hl, fun i p hi => ?_⟩
  have hm := hc i p hi
  obtain ⟨o, ho⟩ : ∃ o, off + i * 4 = o := ⟨_, rfl⟩
  rw [ho] at hm ⊢
  obtain ⟨⟨h0, h1, h2⟩, hr⟩ := h
  have h3 : c = b → 3 ≤ o := fun e => by
    subst e
    have k := hm.1
    rcases Nat.lt_or_ge o 3 with h9 | h9
    · exfalso
      obtain rfl | rfl | rfl : o = 0 ∨ o = 1 ∨ o = 2 := by omega
      · rw [h0] at k; simp at k
      · rw [h1] at k; simp at k
      · rw [h2] at k; simp at k
    · exact h9
  have far : ∀ {o' : Nat} {x : Value}, o ≤ o' → w.cell? ⟨b, o', none⟩ = some x → (set3 w c u0 u1 u2).cell? ⟨b, o', none⟩ = some x := fun ho' hx => by
    unfold set3
    rw [World.cell?_setCell_other _ _ _ _ (fun e => by simp at e; omega), World.cell?_setCell_other _ _ _ _ (fun e => by simp at e; omega), World.cell?_setCell_other _ _ _ _ (fun e => by simp at e; omega)]
    exact hx
  exact ⟨far (Nat.le_refl _) hm.1, far (by omega) hm.2.1, far (by omega) hm.2.2.1, far (by omega) hm.2.2.2⟩
theorem Thr.entsB {w : World} {c : Nat} {u0 u1 u2 : Value} {z0 : Bool} {a1 a2 : Option Addr} {n1 k1 n2 k2 : Nat} (h : Thr w c (.bool z0) (.slice a1 n1 k1) (.slice a2 n2 k2)) {R : List Mo} (hE : Ents w R) : Ents (set3 w c u0 u1 u2) R := fun p hp =>
  ⟨⟨h.seg (by simp) (by simp) (by simp) (hE p hp).ok.1, (hE p hp).ok.2.1, (hE p hp).ok.2.2.1, h.seg (by simp) (by simp) (by simp) (hE p hp).ok.2.2.2.1, (hE p hp).ok.2.2.2.2.1, (hE p hp).ok.2.2.2.2.2⟩, (hE p hp).low⟩

/-- what Prime tells -/
def PAns (w : World) (l : Fo) (e : Ending) (w' : World) : Prop :=
  ∃ g a c R p q, e = .returned (.tuple #[.slice a (R : List Mo).length c, .agg #[.bool (ng (g : Rat).num), .slice p (ln (am g.num)) (ln (am g.num)), .slice q (ln g.den) (ln g.den)]]) ∧ Prm l g ∧ Below w.heap.size w w' ∧
    Sl w' a c R ∧ Ents w' R ∧ fo R = nfm (fmap (fun r => g⁻¹ * r) l) ∧ Seg w' p (am g.num) (ln (am g.num)) ∧ Seg w' q g.den (ln g.den)
/-- the coefficients by their places -/
def cfR (R : List Mo) (i : Nat) : RatV := (R.getD i default).2
theorem cfR_at {R : List Mo} {k : Nat} {p : Mo} (h : R[k]? = some p) : cfR R k = p.2 := by
  unfold cfR
  rw [List.getD_eq_getElem?_getD, h]
  rfl
theorem cfR_mem {R : List Mo} {k : Nat} (h : k < R.length) : ∃ p, p ∈ R ∧ cfR R k = p.2 := ⟨R[k], List.getElem_mem h, cfR_at (List.getElem?_eq_getElem h)⟩
theorem lv_cfR (R : List Mo) : lv (cfR R) R.length = (fo R).map Prod.snd := by
  unfold lv
  apply List.ext_getElem
  · simp [fo]
  · intro i h1 h2
    have hi : i < R.length := by simpa using h1
    have := cfR_at (List.getElem?_eq_getElem hi)
    simp [fo, this]
/-- the content of a form's coefficients, by halves -/
theorem content_is (R : List Mo) (l : Fo) (N : Nat) (ao : Option Addr) (cap : Nat) (p q : Option Addr) (w : World) (hf : fo R = l) (hn : nrm l) (hE : Ents w R) (hA : RatsAt w ao R.length (cfR R)) (hc : R.length ≤ cap) (hm : cap ≤ 9223372036854775807)
    (hs : ∀ s g, (∀ c ∈ s, c ∈ l.map Prod.snd) → Ct g s → sz 10000000 g) (h1 : Seg w p 1 1) (h2 : Seg w q 1 1) :
    Calls Tryz.prog 16 #[.slice ao R.length cap, .agg #[.bool false, .slice p 1 1, .slice q 1 1], .func (.func 18) #[] #[]] w fun e w' => ∃ g, Prm l g ∧ QA w g e w' := by
  rcases R with _ | ⟨p0, R'⟩
  · have hl : l = [] := hf.symm
    refine (byHalves_none ao cap false p 1 1 q 1 1 _ w).mono ?_
    rintro r w' ⟨rfl, hb⟩
    have e1 : ln (am ((1 : Rat).num)) = 1 := by show ln (am 1) = 1; rw [show am 1 = 1 from rfl, ln_one]
    have e2 : ln ((1 : Rat).den) = 1 := by show ln 1 = 1; rw [ln_one]
    refine ⟨1, Or.inl ⟨hl, rfl⟩, p, q, ?_, hb, ?_, Nat.le_refl _, ?_, ?_, Nat.le_refl _, ?_⟩
    · rw [e1, e2]; rfl
    · show Seg w' p 1 (ln (am ((1 : Rat).num))); rw [e1]; exact h1.later hb
    · show ln (am ((1 : Rat).num)) ≤ _; rw [e1]; omega
    · show Seg w' q 1 (ln ((1 : Rat).den)); rw [e2]; exact h2.later hb
    · show ln ((1 : Rat).den) ≤ _; rw [e2]; omega
  · obtain ⟨R, hR⟩ : ∃ R, p0 :: R' = R := ⟨_, rfl⟩
    have hlv := lv_cfR R
    have h0 : cfR R 0 = p0.2 := by rw [← hR]; rfl
    have hlen : 0 < R.length := by rw [← hR]; simp
    rw [hR] at hE hA hc hf ⊢
    rw [hf] at hlv
    refine (byHalvesC_is R.length R.length ao cap (cfR R) false p 1 1 q 1 1 w (Nat.le_refl _) hlen hc hm hA (fun i hi => ?_) (fun i hi => ?_) (fun i hi => ?_) (fun i j g hij hg => ?_)).mono ?_
    · obtain ⟨p, hp, e⟩ := cfR_mem hi
      rw [e]; exact (hE p hp).ok
    · obtain ⟨p, hp, e⟩ := cfR_mem hi
      rw [e]; exact (hE p hp).low
    · obtain ⟨p, hp, e⟩ := cfR_mem hi
      rw [e]
      exact hn.2 (p.1, p.2.val) (by rw [← hf]; exact List.mem_map.2 ⟨p, hp, rfl⟩)
    · refine hs _ g (fun c hc => ?_) hg
      unfold lv at hc
      obtain ⟨t, ht, rfl⟩ := List.mem_map.1 hc
      have ht := List.mem_range.1 ht
      obtain ⟨p, hp, e⟩ := cfR_mem (show i + t < R.length by omega)
      show (cfR R (i + t)).val ∈ _
      rw [e, ← hf]
      exact List.mem_map.2 ⟨(p.1, p.2.val), List.mem_map.2 ⟨p, hp, rfl⟩, rfl⟩
    · rintro e w' ⟨g, hg, hp, hq⟩
      rw [hlv] at hg
      rw [h0] at hp
      refine ⟨g, Or.inr ⟨(p0.1, p0.2.val), fo R', ?_, hg, hp⟩, hq⟩
      rw [← hf, ← hR]; rfl
set_option maxHeartbeats 8000000 in
set_option maxRecDepth 100000 in
theorem lPrime_is (a : Option Addr) (ca : Nat) (L : List Mo) (w : World) (hF : FAt w a L) (hok : ∀ p ∈ L, p.2.ok w) (hc : L.length ≤ ca) (hm : L.length ≤ 1048576) (hmm : ∀ p ∈ L, p.2.m < 35184372087808) (hw : wts (fo L) ≤ 8388608) :
    Calls Tryz.prog 5 #[.slice a L.length ca] w (PAns w (nfm (fo L))) := by
  obtain ⟨k0, hk0, hy0, hy1, hy2⟩ := info_parts info_Rat
  have G1 := hide' (fun w' (hb9 : Below w.heap.size w w') => lNorm_is a ca L w' (hF.later hb9) (fun p hp => (hok p hp).later hb9) hc hm hmm (thin_of (by omega)))
  have hlen := nfm_length (fo L)
  rw [fo_length] at hlen
  have hwn := wts_nfm (fo L)
  have hnr := nfm_nrm (fo L)
  have HP := hide' (fun g (h : Prm (nfm (fo L)) g) => (Prm.sz h).mono (show wts (fo L) + 1 ≤ 8388609 by omega))
  have HC := hide' (fun (s : List Rat) g (hs : ∀ c ∈ s, c ∈ (nfm (fo L)).map Prod.snd) (h : Ct g s) => (ct_sz (l := fo L) (fun c hc => by obtain ⟨q, hq, rfl⟩ := List.mem_map.1 (hs c hc); exact ⟨q.1, by rw [← nfm_co, hnr.co_mem hq]⟩) (fun c hc => by obtain ⟨q, hq, rfl⟩ := List.mem_map.1 (hs c hc); exact hnr.2 q hq) h).mono (show wts (fo L) + 1 ≤ 10000000 by omega))
  have HK := hide' (fun q (hq : q ∈ nfm (fo L)) => (show sz 8388609 q.2 by have h := (co_sz q.1 (fo L)).mono (show wts (fo L) + 1 ≤ 8388609 by omega); rwa [← nfm_co, hnr.co_mem hq] at h))
  obtain ⟨l, hl⟩ : ∃ l, nfm (fo L) = l := ⟨_, rfl⟩
  rw [hl] at G1 hlen hwn hnr HP HC HK ⊢
  have hwl : wts l ≤ 25000000 := by omega
  clear hl hF hok hc hmm hw hwn
  obtain ⟨TT, hTT⟩ : ∃ TT, PAns w l = TT := ⟨_, rfl⟩
  rw [hTT]
  replace hTT := hide' hTT
  have GW' := fun w' => qWhole_is 1 w' (by omega) (by omega)
  rw [show ng 1 = false from rfl, show am 1 = 1 from rfl, ln_one] at GW'
  have GW := hide' GW'
  clear GW'
  go_enter Tryz.func5, Tryz.ntmps5
  go_wp2_with fail
  obtain ⟨wA, hwA⟩ : ∃ wA, w.alloc (.cells #[.bool false, .slice none 0 0, .slice none 0 0] 29) = wA := ⟨_, rfl⟩
  have bA : Below w.heap.size w wA := by subst hwA; exact below_alloc _
  have rA : Thr wA w.heap.size (.bool false) (.slice none 0 0) (.slice none 0 0) := by subst hwA; exact ⟨⟨by go_simp, by go_simp, by go_simp⟩, row_new w _ 29⟩
  rw [hwA]
  clear hwA
  refine (G1.out _ bA).mono ?_
  rintro e w1 ⟨a1, c1, R, rfl, b1, s1, e1, f1⟩
  replace e1 : Ents w1 R := e1
  replace rA := rA.later b1
  replace bA := bA.trans (b1.mono bA.size)
  clear b1
  have hRl : R.length ≤ 1048576 := by rw [← fo_length, f1]; omega
  go_wp2_with fail
  go_loopw [5, 15] (fun vo vi wr => ∃ k : Nat, k ≤ R.length ∧ vi = .int .i64 k ∧ wr.ownsRow w1.heap.size 29 3 vo k (cellsV (cfR R) k) ∧ Below w1.heap.size w1 wr) (fun _ vi _ => R.length - (intOf vi).toNat)
  case atStart => exact ⟨0, Nat.zero_le _, rfl, World.ownsRow_nil _ _ _ _, Below.refl _ _⟩
  case round =>
    obtain ⟨k, hk, rfl, hO, hB⟩ := hrel
    by_cases hlt : k < R.length
    · obtain ⟨pk, hpk⟩ : ∃ p, R[k]? = some p := ⟨R[k], List.getElem?_eq_getElem hlt⟩
      obtain ⟨b, off, rfl, hbb, hcell⟩ := s1.lies (by intro e; rw [e] at hlt; simp at hlt)
      obtain ⟨c0, c3, c4, c5⟩ := hcell k pk hpk
      have hcl := s1.len
      replace c0 := below_cell hB c0
      replace c3 := below_cell hB c3
      replace c4 := below_cell hB c4
      replace c5 := below_cell hB c5
      have hcr : cellsV (cfR R) (k + 1) = cellsV (cfR R) k ++ [.bool pk.2.s, .slice pk.2.a pk.2.n pk.2.c, .slice pk.2.b pk.2.m pk.2.e] := by simp only [cellsV]; rw [cfR_at hpk]
      clear hpk hcell
      obtain ⟨y, q0⟩ := pk
      simp only at c0 c3 c4 c5 hcr
      have i1 : (0 : Int) ≤ (k : Int) := by omega
      have i2 : (k : Int) < (R.length : Int) := by omega
      obtain ⟨wM, hwM⟩ : ∃ wM, wr.alloc (.cells #[.int .i64 y, .bool q0.s, .slice q0.a q0.n q0.c, .slice q0.b q0.m q0.e] 44) = wM := ⟨_, rfl⟩
      have bM : Below wr.heap.size wr wM := by subst hwM; exact below_alloc _
      have a3 : wM.cell? ⟨wr.heap.size, 0, none⟩ = some (.int .i64 y) := by subst hwM; go_simp
      have a4 : wM.cell? ⟨wr.heap.size, 1, none⟩ = some (.bool q0.s) := by subst hwM; go_simp
      have a5 : wM.cell? ⟨wr.heap.size, 2, none⟩ = some (.slice q0.a q0.n q0.c) := by subst hwM; go_simp
      have a6 : wM.cell? ⟨wr.heap.size, 3, none⟩ = some (.slice q0.b q0.m q0.e) := by subst hwM; go_simp
      obtain ⟨w3, hw3⟩ : ∃ w3, wM.alloc (.cells #[.bool q0.s, .slice q0.a q0.n q0.c, .slice q0.b q0.m q0.e] 29) = w3 := ⟨_, rfl⟩
      have hnew := heap_alloc_new wM (.cells #[.bool q0.s, .slice q0.a q0.n q0.c, .slice q0.b q0.m q0.e] 29)
      have b3 := below_alloc (w := wM) (.cells #[.bool q0.s, .slice q0.a q0.n q0.c, .slice q0.b q0.m q0.e] 29)
      rw [hw3] at hnew b3
      have bT : Below wr.heap.size wr w3 := bM.trans (b3.mono bM.size)
      have hO3 := own_below hO bT
      have hB3 := hB.trans (bT.mono hB.size)
      have sz1 := bM.size
      have sz3 := b3.size
      have sz4 := hB.size
      have hbs : w1.heap.size ≤ w3.heap.size := by omega
      have hrow := fun k hk => (hO.lt k hk)
      have hbl : (k + 1) * 56 ≤ 140737488355328 := by omega
      have hj1 : k + 1 ≤ maxLen := by simp only [maxLen]; omega
      go_wp2_with (at_builtin; (try rw [hwM]); (try rw [hw3]); refine wpList_append_lies _ (by rfl) _ _ _ (by rfl) w1.heap.size 29 k0 _ 3 56 Tryz.underlying47 hk0 hy0 hy1 hy2 rfl (by omega) u5 k (cellsV (cfR R) k) (by rfl) hO3 ⟨wM.heap.size, 0, none⟩ 1 1 [.bool q0.s, .slice q0.a q0.n q0.c, .slice q0.b q0.m q0.e] (by rfl) (by rfl) (World.news_of_block (cs := #[.bool q0.s, .slice q0.a q0.n q0.c, .slice q0.b q0.m q0.e]) (t := 29) (fr := (0, 0)) hnew) (by simp [Value.oneCell']) (by omega) hj1 hbl hbs w3.heap.size rfl ?_)
      intro gb cap w9 hown4 hgrow hat hlt4
      have I1 := hide' (And.intro (show w9.ownsRow w1.heap.size 29 3 (.slice (some ⟨gb, 0, none⟩) (k + 1) cap) (k + 1) (cellsV (cfR R) (k + 1)) by rw [hcr]; exact hown4) (hB3.trans (below_grown hB3.size (fun g hg => (hrow g hg).1) hgrow)))
      clear hown4 hgrow hat hO hO3 hnew b3 bM bT hB hB3 hrow
      go_wp2
      go_roundw
      case rel => exact ⟨k + 1, by omega, by go_num, I1.out.1, I1.out.2⟩
      case measure => simp [intOf]; omega
    · obtain rfl : k = R.length := by omega
      have i1 : ¬ (R.length : Int) < (R.length : Int) := by omega
      obtain ⟨ao, co9, rfl, hjc, hcm, hRA⟩ := own_rats hO
      have GH := hide' (fun w' (hb9 : Below wr.heap.size wr w') p q h1 h2 => content_is R l 0 ao co9 p q w' f1 hnr ((e1.later hB).later hb9) (hRA.later hb9) hjc (by simpa [maxLen] using hcm) HC.out h1 h2)
      replace rA := rA.later hB
      replace s1 := s1.later hB
      replace e1 := e1.later hB
      replace bA := bA.trans (hB.mono bA.size)
      clear hO hRA hB hjc hcm
      go_wp2_with fail
      refine (GW.out _).mono ?_
      rintro e w2 ⟨p, p', rfl, n1, n2⟩
      have b2 := n1.below
      go_wp2_with fail
      refine (GH.out _ b2 p p' n1.seg n2.seg).mono ?_
      rintro e w3 ⟨g, hP, x3, y3, rfl, b3, k3⟩
      have hz := HP.out g hP
      have h0 := hP.ne
      have hzi := szInv hz h0
      replace rA := (rA.later b2).later b3
      replace s1 := (s1.later b2).later b3
      replace e1 := (e1.later b2).later b3
      replace bA := (bA.trans (b2.mono bA.size))
      replace bA := bA.trans (b3.mono bA.size)
      clear n1 n2 b2 b3 GH GW
      have lt3 : w.heap.size < w3.heap.size := rA.2.lt
      obtain ⟨wC, hwC⟩ : ∃ wC, w3.alloc (.cells #[.bool (ng g.num), .slice x3 (ln (am g.num)) (ln (am g.num)), .slice y3 (ln g.den) (ln g.den)] 29) = wC := ⟨_, rfl⟩
      have bC : Below w3.heap.size w3 wC := by subst hwC; exact below_alloc _
      have y0 : wC.cell? ⟨w3.heap.size, 0, none⟩ = some (.bool (ng g.num)) := by subst hwC; go_simp
      have y1 : wC.cell? ⟨w3.heap.size, 1, none⟩ = some (.slice x3 (ln (am g.num)) (ln (am g.num))) := by subst hwC; go_simp
      have y2 : wC.cell? ⟨w3.heap.size, 2, none⟩ = some (.slice y3 (ln g.den) (ln g.den)) := by subst hwC; go_simp
      replace rA := rA.later bC
      replace s1 := s1.later bC
      replace e1 := e1.later bC
      replace bA := bA.trans (bC.mono bA.size)
      replace k3 := k3.later bC
      clear bC
      have GI := hide' (qInv_is (ng g.num) x3 (ln (am g.num)) (ln (am g.num)) (am g.num) y3 (ln g.den) (ln g.den) g.den (g⁻¹).num (g⁻¹).den wC (Nat.le_refl _) (Nat.le_trans hz.1 (by omega)) k3.1 (Nat.le_refl _) (Nat.le_trans hz.2 (by omega)) k3.2.2.2.1 (by rw [rn_nf g.den_pos, rd_nf g.den_pos]; exact low_of (fun e => h0 (Rat.num_eq_zero.1 e)) (Rat.inv_def g)))
      obtain ⟨v, hv⟩ : ∃ v, g⁻¹ = v := ⟨_, rfl⟩
      rw [hv] at GI hzi
      go_wp2_with fail
      clear hwC
      refine GI.out.mono ?_
      rintro e w5 ⟨x5, y5, rfl, n5, n6⟩
      have b5 := n5.below
      have k5 := n5.seg
      have k6 := n6.seg
      clear n5 n6 GI
      replace rA := rA.later b5
      replace s1 := s1.later b5
      replace e1 := e1.later b5
      replace bA := bA.trans (b5.mono bA.size)
      replace k3 := k3.later b5
      replace y0 := below_cell b5 y0
      replace y1 := below_cell b5 y1
      replace y2 := below_cell b5 y2
      clear b5
      have lt5 : w.heap.size < w5.heap.size := rA.2.lt
      obtain ⟨wD, hwD⟩ : ∃ wD, w5.alloc (.cells #[.bool (ng v.num), .slice x5 (ln (am v.num)) (ln (am v.num)), .slice y5 (ln v.den) (ln v.den)] 29) = wD := ⟨_, rfl⟩
      have bC : Below w5.heap.size w5 wD := by subst hwD; exact below_alloc _
      have z0 : wD.cell? ⟨w5.heap.size, 0, none⟩ = some (.bool (ng v.num)) := by subst hwD; go_simp
      have z1 : wD.cell? ⟨w5.heap.size, 1, none⟩ = some (.slice x5 (ln (am v.num)) (ln (am v.num))) := by subst hwD; go_simp
      have z2 : wD.cell? ⟨w5.heap.size, 2, none⟩ = some (.slice y5 (ln v.den) (ln v.den)) := by subst hwD; go_simp
      replace rA := rA.later bC
      replace s1 := s1.later bC
      replace e1 := e1.later bC
      replace bA := bA.trans (bC.mono bA.size)
      replace k3 := k3.later bC
      replace k5 := k5.later bC
      replace k6 := k6.later bC
      replace y0 := below_cell bC y0
      replace y1 := below_cell bC y1
      replace y2 := below_cell bC y2
      clear bC
      have GS := hide' (fun w' (hb9 : Below wD.heap.size wD w') => lScaleF_is (nR v x5 y5) a1 c1 R 40000000 w' (s1.lies.later hb9) (fun p hp => (e1 p hp).ok.later hb9) s1.len hRl (show (nR v x5 y5).ok w' from ⟨k5.later hb9, Nat.le_refl _, Nat.le_trans hzi.1 (by omega), k6.later hb9, Nat.le_refl _, Nat.le_trans hzi.2 (by omega)⟩)
        (fun p hp => by have h1 := HK.out (p.1, p.2.val) (by rw [← f1]; exact List.mem_map.2 ⟨p, hp, rfl⟩); obtain ⟨h2, h3⟩ := low_ns (e1 p hp).low; have h4 := h1.1; have h5 := h1.2; have h6 := hzi.1; have h7 := hzi.2; rw [h2, h3]; show ln (am v.num) + ln v.den + _ + _ ≤ _; simp only at h4 h5; omega)
        (by have h6 := hzi.1; have h7 := hzi.2; show ln (am v.num) + ln v.den ≤ _; omega) (by omega) (by rw [nR_val, f1]; exact fine_scale hzi (by omega)))
      rw [nR_val, f1] at GS
      have bW : Below wD.heap.size wD wD := Below.refl _ _
      clear s1 e1 k5 k6
      go_wp2_with fail
      clear hwD
      have bD : Below wD.heap.size wD wD.drew := (Below.refl _ _).drew
      have kz0 := below_cell bD z0
      have kz1 := below_cell bD z1
      have kz2 := below_cell bD z2
      have ky0 := below_cell bD y0
      have ky1 := below_cell bD y1
      have ky2 := below_cell bD y2
      replace bW := bW.trans (bD.mono bW.size)
      replace bA := bA.trans (bD.mono bA.size)
      replace rA := rA.later bD
      replace k3 := k3.later bD
      refine wp_region_held_drew (S := fun w' => w'.cell? ⟨w5.heap.size, 0, none⟩ = some (.bool (ng v.num)) ∧ w'.cell? ⟨w5.heap.size, 1, none⟩ = some (.slice x5 (ln (am v.num)) (ln (am v.num))) ∧ w'.cell? ⟨w5.heap.size, 2, none⟩ = some (.slice y5 (ln v.den) (ln v.den)) ∧ w'.cell? ⟨w3.heap.size, 0, none⟩ = some (.bool (ng g.num)) ∧ w'.cell? ⟨w3.heap.size, 1, none⟩ = some (.slice x3 (ln (am g.num)) (ln (am g.num))) ∧ w'.cell? ⟨w3.heap.size, 2, none⟩ = some (.slice y3 (ln g.den) (ln g.den))) (by kernel_rfl) ⟨kz0, kz1, kz2, ky0, ky1, ky2⟩ (fun hHeld => ?_)
      clear kz0 kz1 kz2 ky0 ky1 ky2
      generalize wD.drew = w0 at bD rA k3 bW bA hHeld ⊢
      clear z0 z1 z2 y0 y1 y2
      refine take' 0 (v := ?_) rfl (by kernel_rfl) (by kernel_rfl) (by kernel_rfl) (fun _ _ _ h => h) (Or.inl ⟨by rfl, ?_⟩) (by assumption) ?_
      rotate_left
      · intro w9 hSw
        go_simp
        first | done | with_reducible rfl
      simp only [Act.put, List.setIfInBounds_toArray, List.set_cons_zero, List.set_cons_succ]
      refine take' 1 (v := ?_) rfl (by kernel_rfl) (by kernel_rfl) (by kernel_rfl) (fun _ _ _ h => h) (Or.inl ⟨by rfl, ?_⟩) (by assumption) ?_
      rotate_left
      · intro w9 hSw
        go_simp
        first | done | with_reducible rfl
      simp only [Act.put, List.setIfInBounds_toArray, List.set_cons_zero, List.set_cons_succ]
      refine take' 3 (v := ?_) rfl (by kernel_rfl) (by kernel_rfl) (by kernel_rfl) (fun _ _ _ h => h) (Or.inl ⟨by rfl, ?_⟩) (by assumption) ?_
      rotate_left
      · intro w9 hSw
        go_simp
        first | done | with_reducible rfl
      simp only [Act.put, List.setIfInBounds_toArray, List.set_cons_zero, List.set_cons_succ]
      refine wpAnyH_ready (rs := [2]) (by kernel_rfl) (by simp) ?_
      refine cons' rfl (fun KK hKK => ?_)
      go_simp
      refine (GS.out _ bW).mono ?_
      rintro e w6 ⟨a6, c6, R6, rfl, b6, s6, e6, f6⟩
      have bC := b6
      replace bW := bW.trans (bC.mono bW.size)
      replace bA := bA.trans (bC.mono bA.size)
      replace rA := rA.later bC
      replace k3 := k3.later bC
      replace hHeld := (⟨below_cell bC hHeld.1, below_cell bC hHeld.2.1, below_cell bC hHeld.2.2.1, below_cell bC hHeld.2.2.2.1, below_cell bC hHeld.2.2.2.2.1, below_cell bC hHeld.2.2.2.2.2⟩ : _ ∧ _ ∧ _ ∧ _ ∧ _ ∧ _)
      clear bC
      go_wp2_with fail
      have E6 : Ents w6 R6 := e6
      clear e6 b6
      refine hKK.out _ _ hHeld ?_
      clear hHeld
      intro hHeld
      clear hKK KK
      try simp only [Act.put, List.setIfInBounds_toArray, List.set_cons_zero, List.set_cons_succ]
      refine take' 4 (v := ?_) rfl (by kernel_rfl) (by kernel_rfl) (by kernel_rfl) (fun _ _ _ h => h) (Or.inl ⟨by rfl, ?_⟩) (by assumption) ?_
      rotate_left
      · intro w9 hSw
        go_simp
        first | done | with_reducible rfl
      simp only [Act.put, List.setIfInBounds_toArray, List.set_cons_zero, List.set_cons_succ]
      refine wpAnyH_ready (rs := [5]) (by kernel_rfl) (by simp) ?_
      refine cons' rfl (fun KK hKK => ?_)
      have fz := fun o => rA.2.frozen o
      have t0 := rA.1.1
      have t1 := rA.1.2.1
      have t2 := rA.1.2.2
      have g8 := rA.seg (u0 := .bool (ng g.num)) (u1 := .slice x3 (ln (am g.num)) (ln (am g.num))) (u2 := .slice y3 (ln g.den) (ln g.den)) (by simp) (by simp) (by simp) k3.1
      have g9 := rA.seg (u0 := .bool (ng g.num)) (u1 := .slice x3 (ln (am g.num)) (ln (am g.num))) (u2 := .slice y3 (ln g.den) (ln g.den)) (by simp) (by simp) (by simp) k3.2.2.2.1
      have s6N : Sl _ _ _ _ := ⟨rA.fatB (u0 := .bool (ng g.num)) (u1 := .slice x3 (ln (am g.num)) (ln (am g.num))) (u2 := .slice y3 (ln g.den) (ln g.den)) s6.lies, s6.len, s6.nn⟩
      have E6N : Ents _ _ := rA.entsB (u0 := .bool (ng g.num)) (u1 := .slice x3 (ln (am g.num)) (ln (am g.num))) (u2 := .slice y3 (ln g.den) (ln g.den)) E6
      replace bA : Below w.heap.size w (set3 w6 (w.heap.size) (.bool (ng g.num)) (.slice x3 (ln (am g.num)) (ln (am g.num))) (.slice y3 (ln g.den) (ln g.den))) := below_set3 bA (by omega)
      have hH2 := (⟨(set3_far (w := w6) (c := w.heap.size) (b := w5.heap.size) (o := 0) (u0 := .bool (ng g.num)) (u1 := .slice x3 (ln (am g.num)) (ln (am g.num))) (u2 := .slice y3 (ln g.den) (ln g.den)) (by omega)).trans hHeld.1, (set3_far (w := w6) (c := w.heap.size) (b := w5.heap.size) (o := 1) (u0 := .bool (ng g.num)) (u1 := .slice x3 (ln (am g.num)) (ln (am g.num))) (u2 := .slice y3 (ln g.den) (ln g.den)) (by omega)).trans hHeld.2.1, (set3_far (w := w6) (c := w.heap.size) (b := w5.heap.size) (o := 2) (u0 := .bool (ng g.num)) (u1 := .slice x3 (ln (am g.num)) (ln (am g.num))) (u2 := .slice y3 (ln g.den) (ln g.den)) (by omega)).trans hHeld.2.2.1, (set3_far (w := w6) (c := w.heap.size) (b := w3.heap.size) (o := 0) (u0 := .bool (ng g.num)) (u1 := .slice x3 (ln (am g.num)) (ln (am g.num))) (u2 := .slice y3 (ln g.den) (ln g.den)) (by omega)).trans hHeld.2.2.2.1, (set3_far (w := w6) (c := w.heap.size) (b := w3.heap.size) (o := 1) (u0 := .bool (ng g.num)) (u1 := .slice x3 (ln (am g.num)) (ln (am g.num))) (u2 := .slice y3 (ln g.den) (ln g.den)) (by omega)).trans hHeld.2.2.2.2.1, (set3_far (w := w6) (c := w.heap.size) (b := w3.heap.size) (o := 2) (u0 := .bool (ng g.num)) (u1 := .slice x3 (ln (am g.num)) (ln (am g.num))) (u2 := .slice y3 (ln g.den) (ln g.den)) (by omega)).trans hHeld.2.2.2.2.2⟩ : _ ∧ _ ∧ _ ∧ _ ∧ _ ∧ _)
      have rD := rA.put (u0 := .bool (ng g.num)) (u1 := .slice x3 (ln (am g.num)) (ln (am g.num))) (u2 := .slice y3 (ln g.den) (ln g.den))
      go_simp
      clear t0 t1 t2 fz rA
      refine hKK.out _ _ hH2 ?_
      clear hHeld
      intro hHeld
      clear hKK KK
      try simp only [Act.put, List.setIfInBounds_toArray, List.set_cons_zero, List.set_cons_succ]
      clear hH2
      try unfold set3 at g8
      try unfold set3 at g9
      try unfold set3 at s6N
      try unfold set3 at E6N
      try unfold set3 at rD
      try unfold set3 at bA
      try unfold set3 at hHeld
      generalize (((w6.setCell ⟨w.heap.size, 0, none⟩ (.bool (ng g.num))).setCell ⟨w.heap.size, 1, none⟩ (.slice x3 (ln (am g.num)) (ln (am g.num)))).setCell ⟨w.heap.size, 2, none⟩ (.slice y3 (ln g.den) (ln g.den))) = w9 at g8 g9 s6N E6N rD bA hHeld ⊢
      refine wpAnyH_done (by kernel_rfl) ?_ _
      obtain ⟨⟨v0, v1, v2⟩, vR⟩ := rD
      go_wp2
      refine bodyPost_ret (v := .tuple #[.slice a6 R6.length c6, .agg #[.bool (ng g.num), .slice x3 (ln (am g.num)) (ln (am g.num)), .slice y3 (ln g.den) (ln g.den)]]) (by rw [results_tc rfl]; go_simp) rfl ?_
      rw [← hTT.out]
      exact ⟨g, a6, c6, R6, x3, y3, rfl, hP, bA, s6N, E6N, by rw [f6, hv], g8, g9⟩
end Go.Proofs.YtkfhllonjgcbkaaGreat
