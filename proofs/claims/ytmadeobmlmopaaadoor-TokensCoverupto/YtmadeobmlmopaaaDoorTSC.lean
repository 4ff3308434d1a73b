/-
  TokensCuts: the walk.
-/
import Derived.Test.YtmadeobmlmopaaaDoorTSB
namespace Go.Proofs.YtmadeobmlmopaaaDoor
open Go.RowKit
set_option linter.unusedVariables false
set_option linter.unusedSimpArgs false

/-- a list of int that came in -/
def IntsC (w : World) (a : Option Addr) (len : Nat) (g : Nat → Int) : Prop := 0 < len → ∃ b off, a = some ⟨b, off, none⟩ ∧ ∀ i, i < len → w.cell? ⟨b, off + i, none⟩ = some (.int .i64 (g i))
theorem IntsC.on {w w' : World} {a : Option Addr} {len : Nat} {g : Nat → Int} (h : IntsC w a len g) (hb : Below w.heap.size w w') : IntsC w' a len g := fun hl => by
  obtain ⟨b, off, e, hc⟩ := h hl
  exact ⟨b, off, e, fun i hi => below_cell hb (hc i hi)⟩
theorem charP_ts (p : PS) (r : Nat) (us : List UInt8) : (charP p r us).1.length ≤ 2 := by
  have := told_len p r
  unfold charP
  repeat' split
  all_goals simp only [List.length_append, List.length_cons, List.length_nil]
  all_goals omega
theorem feed_len (p : PS) (bs : List UInt8) : (feedP p bs).1.length ≤ bs.length * 2 := by
  induction bs generalizing p with
  | nil => simp [feedP]
  | cons u us ih =>
    have h1 := charP_ts p u.toNat [u]
    simp only [feedP]
    rcases hc : charP p u.toNat [u] with ⟨t1, o1⟩
    rw [hc] at h1
    cases o1 with
    | bad B L C => simp only [List.length_cons] at h1 ⊢; omega
    | ok q =>
      have := ih q
      simp only [List.length_append, List.length_cons] at h1 ⊢
      omega
theorem take_drop {bs : List UInt8} {a c : Nat} (h : a ≤ c) : bs.take c = bs.take a ++ (bs.take c).drop a := by
  have e : (bs.take c).take a = bs.take a := by rw [List.take_take]; congr 1; omega
  rw [← e, List.take_append_drop]
/-- the scanner, where nothing was wrong -/
def CutS (w : World) (b : Nat) (last : Int) : Out → Prop
  | .ok q => last = 0 ∧ ∃ S, ScAt w (b + 1) b S ∧ RelS S q ∧ Inv q
  | .bad _ _ _ => last = 120
end Go.Proofs.YtmadeobmlmopaaaDoor
