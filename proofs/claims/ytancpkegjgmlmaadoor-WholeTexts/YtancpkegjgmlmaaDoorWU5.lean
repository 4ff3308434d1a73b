/-
  Layer 2: a number's text is there, and is read as the number.
-/
import Derived.Test.YtancpkegjgmlmaaDoorWU4
import Derived.Test.YtancpkegjgmlmaaDoorWUA
namespace Go.Proofs.YtancpkegjgmlmaaDoor
open Go.RowKit
set_option linter.unusedVariables false

theorem wParse_tz (s : Bool) (X : Nat) (u : ByteArray) (w : World) (h : Digs w) (hs : u.size ≤ 140737488355328) (hu : isTz s X u) : Calls Tryd.prog 7 #[.string u] w (PG (ng (sg s X)) (am (sg s X)) w) := by
  obtain ⟨t, ht, e⟩ := hu
  have hT := ht.isT (by omega) (by omega)
  have hv := ht.val (by omega) (by omega)
  by_cases c : s = true ∧ X ≠ 0
  · rw [if_pos c] at e
    have hx := cons_ext t
    rw [← e] at hx
    have h1 : byt u 0 = 45 := by rw [e]; exact cons_byt t
    have h2 : 0 < u.size := by rw [e, ByteArray.size_append]; show 0 < 1 + _; omega
    have := wParse_neg u w h hs h2 h1 (by rw [hx]; exact hT) (by rw [hx, hv]; exact c.2)
    rw [hx, hv] at this
    rw [c.1, am_sg, ng_sg, decide_eq_true (Nat.pos_of_ne_zero fun e => c.2 (ln_eq_zero.1 e)), Bool.and_self]
    exact this
  · rw [if_neg c] at e
    subst e
    have := wParse_pos u w h hs (fun h => ht.head h.2) hT
    rw [hv] at this
    have hn : ng (sg s X) = false := by
      by_cases hX : X = 0
      · subst hX; cases s <;> rfl
      · have c1 : s = false := by cases s; rfl; exact absurd ⟨rfl, hX⟩ c
        rw [c1, ng_sg, Bool.false_and]
    rw [am_sg, hn]
    exact this
end Go.Proofs.YtancpkegjgmlmaaDoor
