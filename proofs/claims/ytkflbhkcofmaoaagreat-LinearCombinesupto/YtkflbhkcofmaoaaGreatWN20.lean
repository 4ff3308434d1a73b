/-
  Layer 6: Subst.
-/
import Derived.Test.YtkflbhkcofmaoaaGreatWN15
import Derived.Test.YtkflbhkcofmaoaaGreatWQB
import Derived.Test.YtkflbhkcofmaoaaGreatWN17
namespace Go.Proofs.YtkflbhkcofmaoaaGreat
open Go.RowKit
set_option linter.unusedVariables false
set_option linter.unusedSimpArgs false

/-- an answer that is a number in lowest terms -/
def BAns (w : World) (r : Rat) (e : Ending) (w' : World) : Prop :=
  ∃ p q, e = .returned (.agg #[.bool (ng r.num), .slice p (ln (am r.num)) (ln (am r.num)), .slice q (ln r.den) (ln r.den)]) ∧ Below w.heap.size w w' ∧ Seg w' p (am r.num) (ln (am r.num)) ∧ Seg w' q r.den (ln r.den)

end Go.Proofs.YtkflbhkcofmaoaaGreat

namespace Go.Proofs.YtkflbhkcofmaoaaGreat
open Go.RowKit
set_option linter.unusedVariables false


end Go.Proofs.YtkflbhkcofmaoaaGreat

namespace Go.Proofs.YtkflbhkcofmaoaaGreat
open Go.RowKit
set_option linter.unusedVariables false
set_option linter.unusedSimpArgs false

end Go.Proofs.YtkflbhkcofmaoaaGreat

namespace Go.Proofs.YtkflbhkcofmaoaaGreat
open Go.RowKit
set_option linter.unusedVariables false
set_option linter.unusedSimpArgs false

/-- four cells that are no whole numbers are none of a form's: a form stays as it is where they are stored into -/
theorem Four.far4 {w : World} {c b o : Nat} {u0 u1 u2 u3 : Value} (h : c = b → 4 ≤ o) : (set4 w c u0 u1 u2 u3).cell? ⟨b, o, none⟩ = w.cell? ⟨b, o, none⟩ := by
  have hne : ∀ i, i < 4 → (⟨b, o, none⟩ : Addr) ≠ ⟨c, i, none⟩ := fun i hi e => by
    simp only [Addr.mk.injEq] at e
    have := h e.1.symm
    omega
  unfold set4
  rw [World.cell?_setCell_other _ _ _ _ (by first | exact hne 3 (by omega) | exact (hne 3 (by omega)).symm), World.cell?_setCell_other _ _ _ _ (by first | exact hne 2 (by omega) | exact (hne 2 (by omega)).symm), World.cell?_setCell_other _ _ _ _ (by first | exact hne 1 (by omega) | exact (hne 1 (by omega)).symm), World.cell?_setCell_other _ _ _ _ (by first | exact hne 0 (by omega) | exact (hne 0 (by omega)).symm)]
theorem Four.fat {w : World} {c : Nat} {u0 u1 u2 u3 z0 z1 z2 z3 : Value} (h : Four w c z0 z1 z2 z3) (k0 : ∀ i, z0 ≠ .int .i64 i) (k1 : ∀ i, z1 ≠ .int .i64 i) (k2 : ∀ i, z2 ≠ .int .i64 i) (k3 : ∀ i, z3 ≠ .int .i64 i) {a : Option Addr} {L : List Mo} (hF : FAt w a L) : FAt (set4 w c u0 u1 u2 u3) a L := fun hn => by
  obtain ⟨b, off, e, hl, hc⟩ := hF hn
  have hsz : (set4 w c u0 u1 u2 u3).heap.size = w.heap.size := by simp only [set4, World.size_setCell]
  refine ⟨b, off, e, by rw [hsz]; exact hl, fun i p hi => ?_⟩
  have hm := hc i p hi
  obtain ⟨o, ho⟩ : ∃ o, off + i * 4 = o := ⟨_, rfl⟩
  rw [ho] at hm ⊢
  have h4 : c = b → 4 ≤ o := fun e => by
    subst e
    obtain ⟨⟨h0, h1, h2, h3⟩, _⟩ := h
    have m0 := hm.1
    rcases Nat.lt_or_ge o 4 with hlt | hge
    · exfalso
      match o, hlt, m0 with
      | 0, _, m0 => rw [h0] at m0; exact k0 _ (Option.some.inj m0)
      | 1, _, m0 => rw [h1] at m0; exact k1 _ (Option.some.inj m0)
      | 2, _, m0 => rw [h2] at m0; exact k2 _ (Option.some.inj m0)
      | 3, _, m0 => rw [h3] at m0; exact k3 _ (Option.some.inj m0)
    · exact hge
  refine ⟨by rw [Four.far4 h4]; exact hm.1, by rw [Four.far4 (fun e => by have := h4 e; omega)]; exact hm.2.1, by rw [Four.far4 (fun e => by have := h4 e; omega)]; exact hm.2.2.1, by rw [Four.far4 (fun e => by have := h4 e; omega)]; exact hm.2.2.2⟩
theorem Four.ok {w : World} {c : Nat} {u0 u1 u2 u3 z0 z1 z2 z3 : Value} (h : Four w c z0 z1 z2 z3) (k0 : ∀ i, z0 ≠ .int .u32 i) (k1 : ∀ i, z1 ≠ .int .u32 i) (k2 : ∀ i, z2 ≠ .int .u32 i) (k3 : ∀ i, z3 ≠ .int .u32 i) {p : Mo} (hE : Ent w p) : Ent (set4 w c u0 u1 u2 u3) p :=
  ⟨⟨h.seg k0 k1 k2 k3 hE.ok.1, hE.ok.2.1, hE.ok.2.2.1, h.seg k0 k1 k2 k3 hE.ok.2.2.2.1, hE.ok.2.2.2.2.1, hE.ok.2.2.2.2.2⟩, hE.low⟩

theorem bulkL_mem : ∀ {L : List Mo} {p : Mo}, p ∈ L → p.2.n + p.2.m + 2 ≤ bulkL L
  | q :: L, p, h => by
    simp only [bulkL]
    rcases List.mem_cons.1 h with rfl | h
    · omega
    · have := bulkL_mem h; omega
end Go.Proofs.YtkflbhkcofmaoaaGreat

namespace Go.Proofs.YtkflbhkcofmaoaaGreat
open Go.RowKit
set_option linter.unusedVariables false
set_option linter.unusedSimpArgs false

/-- an answer that is an affine form -/
def AfAns (w : World) (l : Fo) (s : Rat) (e : Ending) (w' : World) : Prop :=
  ∃ a c R p q, e = .returned (.agg #[.slice a (R : List Mo).length c, .bool (ng s.num), .slice p (ln (am s.num)) (ln (am s.num)), .slice q (ln s.den) (ln s.den)]) ∧ Below w.heap.size w w' ∧
    Sl w' a c R ∧ (∀ p ∈ R, Ent w' p) ∧ fo R = l ∧ Seg w' p (am s.num) (ln (am s.num)) ∧ Seg w' q s.den (ln s.den)

end Go.Proofs.YtkflbhkcofmaoaaGreat
