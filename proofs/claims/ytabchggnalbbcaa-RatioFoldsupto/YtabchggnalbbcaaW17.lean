/-
  gcdStep, Gcd.
-/
import Derived.Test.YtabchggnalbbcaaW15
import Derived.Test.YtabchggnalbbcaaRegZ
import Derived.Deep.LoopGhost
namespace Go.Proofs.Ytabchggnalbbcaa
open Go.RowKit
set_option linter.unusedVariables false
/-- the two structs of gcdSteps in memory: s in the block b, ahead in the block behind it -/
structure Stp (w0 w : World) (b um vm u0 v0 u1 v1 : Nat) (ev : Bool) : Prop where
  c0 : w.cell? ⟨b, 0, none⟩ = some (.int .u64 um)
  c1 : w.cell? ⟨b, 1, none⟩ = some (.int .u64 vm)
  c2 : w.cell? ⟨b, 2, none⟩ = some (.int .u64 u0)
  c3 : w.cell? ⟨b, 3, none⟩ = some (.int .u64 v0)
  c4 : w.cell? ⟨b, 4, none⟩ = some (.bool ev)
  d0 : w.cell? ⟨b + 1, 0, none⟩ = some (.int .u64 u1)
  d1 : w.cell? ⟨b + 1, 1, none⟩ = some (.int .u64 v1)
  rb : Row w b
  rd : Row w (b + 1)
  be : Below w0.heap.size w0 w

/-- the room of gcdSteps' result, untouched -/
structure Res (w : World) (b : Nat) : Prop where
  r0 : w.cell? ⟨b, 0, none⟩ = some (.int .u64 0)
  r1 : w.cell? ⟨b, 1, none⟩ = some (.int .u64 0)
  r2 : w.cell? ⟨b, 2, none⟩ = some (.int .u64 0)
  r3 : w.cell? ⟨b, 3, none⟩ = some (.int .u64 0)
  r4 : w.cell? ⟨b, 4, none⟩ = some (.bool false)
  rr : Row w b
theorem Res.drewN {w : World} {b n : Nat} (h : Res w b) : Res (w.drewN n) b := ⟨h.r0, h.r1, h.r2, h.r3, h.r4, h.rr⟩
theorem Res.setCell {w : World} {b b' o : Nat} (h : Res w b) (u : Value) (hne : b < b') : Res (w.setCell ⟨b', o, none⟩ u) b := by
  have k : ∀ o', (w.setCell ⟨b', o, none⟩ u).cell? ⟨b, o', none⟩ = w.cell? ⟨b, o', none⟩ := fun o' => World.cell?_setCell_far _ _ _ _ (by show b' ≠ b; omega)
  exact ⟨by rw [k]; exact h.r0, by rw [k]; exact h.r1, by rw [k]; exact h.r2, by rw [k]; exact h.r3, by rw [k]; exact h.r4, h.rr.setCell _ _⟩

theorem Stp.step {w0 w : World} {b n um vm u0 v0 u1 v1 U V : Nat} {A B : Int} {ev : Bool} (h : Stp w0 w b um vm u0 v0 u1 v1 ev) (hb : w0.heap.size ≤ b) (hA : A = U) (hB : B = V) :
    Stp w0 ((((((((w.drewN n).setCell ⟨b, 0, none⟩ (.int .u64 u0)).setCell ⟨b, 1, none⟩ (.int .u64 v0)).setCell ⟨b, 2, none⟩ (.int .u64 u1)).setCell ⟨b, 3, none⟩ (.int .u64 v1)).setCell ⟨b + 1, 0, none⟩ (.int .u64 A)).setCell ⟨b + 1, 1, none⟩ (.int .u64 B)).setCell ⟨b, 4, none⟩ (.bool !ev)) b u0 v0 u1 v1 U V (!ev) := by
  obtain ⟨c0, c1, c2, c3, c4, d0, d1, rb, rd, be⟩ := h
  subst hA hB
  have be' := below_drewN (q := n) be
  refine ⟨by go_simp, by go_simp, by go_simp, by go_simp, by go_simp, by go_simp, by go_simp, ?_, ?_, ?_⟩
  · exact ((((((rb.drewN.setCell _ _).setCell _ _).setCell _ _).setCell _ _).setCell _ _).setCell _ _).setCell _ _
  · exact ((((((rd.drewN.setCell _ _).setCell _ _).setCell _ _).setCell _ _).setCell _ _).setCell _ _).setCell _ _
  · exact ((((((be'.setCell (by exact hb) _).setCell (by exact hb) _).setCell (by exact hb) _).setCell (by exact hb) _).setCell (by exact Nat.le_succ_of_le hb) _).setCell (by exact Nat.le_succ_of_le hb) _).setCell (by exact hb) _

end Go.Proofs.Ytabchggnalbbcaa

namespace Go.Proofs.Ytabchggnalbbcaa
open Go.RowKit
set_option linter.unusedVariables false
end Go.Proofs.Ytabchggnalbbcaa
