/-
  The reference's Int; one step of its Expand, as numbers.
-/
import Derived.Test.YtapjaceahifihaaWQ5
import Derived.Test.YtapjaceahifihaaWQ2
import Derived.Test.YtapjaceahifihaaWQ7
import Derived.Test.YtapjaceahifihaaWI2
import Derived.Test.YtapjaceahifihaaWJ4
import Derived.Test.YtapjaceahifihaaWQG
import Derived.Test.YtapjaceahifihaaWQD
namespace Go.Proofs.Ytapjaceahifihaa
open Go.RowKit
set_option linter.unusedVariables false

theorem seg_setT {w : World} {p : Option Addr} {X n c o : Nat} {u z : Value} (h : Seg w p X n) (hc : w.cell? ⟨c, o, none⟩ = some z) (hz : ∀ i, z ≠ .int .u32 i) : Seg (w.setCell ⟨c, o, none⟩ u) p X n := by
  refine ⟨h.1, fun hn => ?_⟩
  obtain ⟨b, off, rfl, hb, hcell⟩ := h.2 hn
  refine ⟨b, off, rfl, by simpa [World.setCell] using hb, fun i hi => ?_⟩
  have h1 := hcell i hi
  rw [World.cell?_setCell_other _ _ _ _ (fun e => ?_)]
  · exact h1
  · rw [← e, hc] at h1
    simp only [Option.some.injEq] at h1
    exact hz _ h1
/-- three cells of a variable, and that it can be stored into -/
def Thr (w : World) (c : Nat) (u0 u1 u2 : Value) : Prop :=
  (w.cell? ⟨c, 0, none⟩ = some u0 ∧ w.cell? ⟨c, 1, none⟩ = some u1 ∧ w.cell? ⟨c, 2, none⟩ = some u2) ∧ Row w c
theorem Thr.later {w w' : World} {c : Nat} {u0 u1 u2 : Value} (h : Thr w c u0 u1 u2) (hb : Below w.heap.size w w') : Thr w' c u0 u1 u2 :=
  ⟨⟨below_cell hb h.1.1, below_cell hb h.1.2.1, below_cell hb h.1.2.2⟩, below_row hb h.2⟩
abbrev set3 (w : World) (c : Nat) (u0 u1 u2 : Value) : World := ((w.setCell ⟨c, 0, none⟩ u0).setCell ⟨c, 1, none⟩ u1).setCell ⟨c, 2, none⟩ u2
theorem Thr.put {w : World} {c : Nat} {u0 u1 u2 z0 z1 z2 : Value} (h : Thr w c z0 z1 z2) : Thr (set3 w c u0 u1 u2) c u0 u1 u2 :=
  ⟨set3_same h.1.1 h.1.2.1 h.1.2.2, ((h.2.setCell _ _).setCell _ _).setCell _ _⟩
theorem Thr.seg {w : World} {c : Nat} {u0 u1 u2 z0 z1 z2 : Value} (h : Thr w c z0 z1 z2) (k0 : ∀ i, z0 ≠ .int .u32 i) (k1 : ∀ i, z1 ≠ .int .u32 i) (k2 : ∀ i, z2 ≠ .int .u32 i) {p : Option Addr} {X n : Nat} (hS : Seg w p X n) : Seg (set3 w c u0 u1 u2) p X n := by
  refine seg_setT (z := z2) (seg_setT (z := z1) (seg_setT (z := z0) hS h.1.1 k0) ?_ k1) ?_ k2
  · rw [World.cell?_setCell_other _ _ _ _ (fun e => by simp at e)]; exact h.1.2.1
  · rw [World.cell?_setCell_other _ _ _ _ (fun e => by simp at e), World.cell?_setCell_other _ _ _ _ (fun e => by simp at e)]; exact h.1.2.2
theorem below_set3 {B : Nat} {w w' : World} {c : Nat} {u0 u1 u2 : Value} (h : Below B w w') (hc : B ≤ c) : Below B w (set3 w' c u0 u1 u2) := ((h.setCell hc _).setCell hc _).setCell hc _

end Go.Proofs.Ytapjaceahifihaa

namespace Go.Proofs.Ytapjaceahifihaa
open Go.RowKit
set_option linter.unusedVariables false



end Go.Proofs.Ytapjaceahifihaa

namespace Go.Proofs.Ytapjaceahifihaa
open Go.RowKit
set_option linter.unusedVariables false

end Go.Proofs.Ytapjaceahifihaa

namespace Go.Proofs.Ytapjaceahifihaa
open Go.RowKit
set_option linter.unusedVariables false
set_option linter.unusedSimpArgs false

/-- the numbers of a continued fraction hang on the fraction alone -/
theorem cf_same : ∀ (d : Nat) (n n' : Int) (d' : Nat), d ≠ 0 → d' ≠ 0 → n * (d' : Int) = n' * (d : Int) → cf n d = cf n' d' := by
  intro d
  induction d using Nat.strongRecOn with
  | _ d ih =>
    intro n n' d' hd hd' e
    have f1 : Fl n d (n / (d : Int)) (n % (d : Int)) := ⟨by rw [Int.mul_comm]; exact Int.mul_ediv_add_emod _ _, Int.emod_nonneg _ (by omega), Int.emod_lt_of_pos _ (by omega)⟩
    have f2 : Fl n' d' (n' / (d' : Int)) (n' % (d' : Int)) := ⟨by rw [Int.mul_comm]; exact Int.mul_ediv_add_emod _ _, Int.emod_nonneg _ (by omega), Int.emod_lt_of_pos _ (by omega)⟩
    have hq := Fl.same f1 (by omega) f2 (by omega) e.symm
    have hr : n % (d : Int) * (d' : Int) = n' % (d' : Int) * (d : Int) := by
      have g1 := f1.eq
      have g2 := f2.eq
      rw [hq] at g2
      have g3 : n % (d : Int) = n - n / (d : Int) * d := by omega
      have g4 : n' % (d' : Int) = n' - n / (d : Int) * d' := by omega
      rw [g3, g4]
      grind
    by_cases h0 : n % (d : Int) = 0
    · have h0' : n' % (d' : Int) = 0 := by
        rw [h0, Int.zero_mul] at hr
        rcases Int.mul_eq_zero.1 hr.symm with h | h
        · exact h
        · omega
      rw [cf_end hd h0, cf_end hd' h0', hq]
    · have h0' : n' % (d' : Int) ≠ 0 := by
        intro h
        rw [h, Int.zero_mul] at hr
        rcases Int.mul_eq_zero.1 hr with h | h
        · exact h0 h
        · omega
      obtain ⟨m1, m2⟩ := mod_nat (n := n) hd
      obtain ⟨m3, m4⟩ := mod_nat (n := n') hd'
      rw [cf_on hd h0, cf_on hd' h0', hq]
      congr 1
      refine ih _ m2 (d : Int) (d' : Int) _ (by omega) (by omega) ?_
      rw [m1, m3]
      grind

/-- the reference's step: what is left, turned round -/
theorem exp_step {A : Int} {D : Nat} (hD : D ≠ 0) {Zf G : Int} (hf : Fl A D Zf G) {Zs Zi : Int} {Vs Vi : Nat} (h1 : Low G D Zs Vs) :
    (Zs = 0 ↔ G = 0) ∧ (Zs = 0 → cf A D = [Zf]) ∧ (Low Vs Zs Zi Vi → am Zi ≤ D ∧ Vi < D ∧ Vi ≠ 0 ∧ cf A D = Zf :: cf Zi Vi) := by
  obtain ⟨hq, hm⟩ := cf_step (A := A) hD hf.eq hf.ge hf.lt
  have hDp : (0 : Int) < D := by omega
  have hz : Zs = 0 ↔ G = 0 := by
    have := h1.eq
    have hp := h1.pos
    constructor
    · intro h
      rw [h, Int.zero_mul] at this
      rcases Int.mul_eq_zero.1 this.symm with k | k <;> omega
    · intro h
      rw [h, Int.zero_mul] at this
      rcases Int.mul_eq_zero.1 this with k | k <;> omega
  refine ⟨hz, fun h => ?_, fun h2 => ?_⟩
  · rw [cf_end hD (by rw [hm]; exact hz.1 h), hq]
  · have hZ : Zs ≠ 0 := h2.ne
    have hG : G ≠ 0 := fun h => hZ (hz.2 h)
    have l1 := h1.le
    have l2 := h2.le
    have hge := hf.ge
    have hlt := hf.lt
    have e1 := h1.eq
    have e2 := h2.eq
    simp only [am] at l1 l2
    refine ⟨by unfold am; omega, by omega, by have := h2.pos; omega, ?_⟩
    rw [cf_on hD (by rw [hm]; exact hG), hq, hm]
    congr 1
    have hp := h2.pos
    refine cf_same _ _ _ _ (by omega) (by omega) ?_
    have e3 : ((G.toNat : Nat) : Int) = G := by omega
    rw [e3]
    have hVs := h1.pos
    have k : ((D : Int) * Vi - Zi * G) * (Vs * Zs) = 0 := by
      have : Zs * (D : Int) * (Zi * Zs) = G * (Vs : Int) * ((Vs : Int) * (Vi : Int)) := by rw [e1, e2]
      grind
    rcases Int.mul_eq_zero.1 k with k | k
    · omega
    · rcases Int.mul_eq_zero.1 k with k | k <;> omega

set_option maxHeartbeats 2000000 in
set_option maxRecDepth 100000 in
theorem vqInt_is (z : Int) (p0 : Option Addr) (w : World) (lz : ln (am z) ≤ 4398046511104) (hS : Seg w p0 (am z) (ln (am z))) :
    Calls Try.prog 21 #[.agg #[.bool (ng z), .slice p0 (ln (am z)) (ln (am z))]] w fun e w' => ∃ p q, e = .returned (.agg #[.bool (ng z), .slice p (ln (am z)) (ln (am z)), .slice q (ln 1) (ln 1)]) ∧ New w w' p (am z) (ln (am z)) ∧ New w w' q 1 (ln 1) := by
  have hL : Low (rn (ng z) (am z) 1) ((rd 1 : Nat) : Int) z 1 := Low.nf (Low.self (by omega) (by simp)) (by omega)
  obtain ⟨V, hV⟩ : ∃ V : Nat, 1 = V := ⟨_, rfl⟩
  have P2 : ∀ w' p q, Seg w' p (am z) (ln (am z)) → Seg w' q 1 1 → Calls Try.prog 14 #[.agg #[.bool (ng z), .slice p (ln (am z)) (ln (am z)), .slice q 1 1]] w' fun e w'' => ∃ p q, e = .returned (.agg #[.bool (ng z), .slice p (ln (am z)) (ln (am z)), .slice q (ln V) (ln V)]) ∧ New w' w'' p (am z) (ln (am z)) ∧ New w' w'' q V (ln V) := fun w' p q k1 k2 => by
    subst hV
    exact vqNorm_is (ng z) p (ln (am z)) (ln (am z)) (am z) q 1 1 1 1 z w' (by omega) k1 (by omega) k2 hL
  have H2 := hide' P2
  rw [show ln 1 = ln V by rw [hV]]
  have e1 : ∀ w' q, New w w' q 1 (ln V) ↔ New w w' q V (ln V) := fun w' q => by rw [← hV]
  simp only [e1]
  clear P2 hL hV e1
  have bA := (below_alloc (w := w) (.cells #[.bool (ng z), .slice p0 (ln (am z)) (ln (am z))] 25)).alloc (by simp) (.cells #[.bool false, .slice none 0 0, .slice none 0 0] 27)
  have n9 := single_new ((w.alloc (.cells #[.bool (ng z), .slice p0 (ln (am z)) (ln (am z))] 25)).alloc (.cells #[.bool false, .slice none 0 0, .slice none 0 0] 27)) 1 38 1 (by omega) rfl
  simp only [World.size_alloc] at n9
  have bB := n9.below
  have v9 : Thr ((w.alloc (.cells #[.bool (ng z), .slice p0 (ln (am z)) (ln (am z))] 25)).alloc (.cells #[.bool false, .slice none 0 0, .slice none 0 0] 27)) (w.heap.size + 1) (.bool false) (.slice none 0 0) (.slice none 0 0) :=
    ⟨⟨by go_simp, by go_simp, by go_simp⟩, by have := row_new (w.alloc (.cells #[.bool (ng z), .slice p0 (ln (am z)) (ln (am z))] 25)) #[.bool false, .slice none 0 0, .slice none 0 0] 27; rwa [World.size_alloc] at this⟩
  have v8 := v9.later bB
  have b8 := bA.trans (bB.mono bA.size)
  have G2 := hide' (H2.out _ p0 _ ((hS.later bA).later bB) n9.seg)
  clear H2 v9 bA bB n9 hS
  go_enter Try.func21, Try.ntmps21
  go_wp2_with (go_at_call 14; refine G2.out.mono ?_; rintro e w2 ⟨p, q, rfl, hp, hq⟩; have v7 := v8.later hp.below; have b7 := b8.trans (hp.below.mono b8.size); replace hp := hp.back b8; replace hq := hq.back b8; clear G2 v8 b8; have z0 := v7.1.1; have z1 := v7.1.2.1; have z2 := v7.1.2.2; have fz := fun o => v7.2.frozen o)
  have v6 := v7.put (u0 := .bool (ng z)) (u1 := .slice p (ln (am z)) (ln (am z))) (u2 := .slice q (ln V) (ln V))
  have s1 := v7.seg (u0 := .bool (ng z)) (u1 := .slice p (ln (am z)) (ln (am z))) (u2 := .slice q (ln V) (ln V)) (by simp) (by simp) (by simp) hp.seg
  have s2 := v7.seg (u0 := .bool (ng z)) (u1 := .slice p (ln (am z)) (ln (am z))) (u2 := .slice q (ln V) (ln V)) (by simp) (by simp) (by simp) hq.seg
  have b6 := below_set3 (c := w.heap.size + 1) (u0 := .bool (ng z)) (u1 := .slice p (ln (am z)) (ln (am z))) (u2 := .slice q (ln V) (ln V)) b7 (by omega)
  clear z0 z1 z2 fz
  have z0 := v6.1.1
  have z1 := v6.1.2.1
  have z2 := v6.1.2.2
  unfold set3 at z0 z1 z2
  refine bodyPost_ret (v := .agg #[.bool (ng z), .slice p (ln (am z)) (ln (am z)), .slice q (ln V) (ln V)]) (by rw [results_cell rfl]; go_simp) rfl ?_
  exact ⟨p, q, rfl, ⟨s1, b6, fun hn => by obtain ⟨b, off, e, hl, hr⟩ := hp.fresh hn; exact ⟨b, off, e, hl, ((hr.setCell _ _).setCell _ _).setCell _ _⟩⟩, ⟨s2, b6, fun hn => by obtain ⟨b, off, e, hl, hr⟩ := hq.fresh hn; exact ⟨b, off, e, hl, ((hr.setCell _ _).setCell _ _).setCell _ _⟩⟩⟩
end Go.Proofs.Ytapjaceahifihaa
