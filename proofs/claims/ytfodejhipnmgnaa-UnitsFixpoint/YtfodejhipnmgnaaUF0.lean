/-
  units: offer.
-/
import Derived.Test.YtfodejhipnmgnaaUE3
namespace Go.Proofs.Ytfodejhipnmgnaa
open Go.RowKit
set_option linter.unusedVariables false
set_option linter.unusedSimpArgs false
/-- two literals, and when each falls -/
structure PR where
  l0 : Int
  l1 : Int
  f0 : Int
  f1 : Int
def PR.offer (p : PR) (x f : Int) : PR := if x = p.l0 then p else if f > p.f0 then ⟨x, p.l0, f, p.f0⟩ else if f > p.f1 then ⟨p.l0, x, p.f0, f⟩ else p
def PR.cells (p : PR) : Array Value := #[.int .i64 p.l0, .int .i64 p.l1, .int .i64 p.f0, .int .i64 p.f1]
/-- a pair in a block -/
def PB (w : World) (c : Nat) (p : PR) (t : TypeId) : Prop := w.heap[c]? = some (.cells p.cells t (0, 0))
/-- one block alone is changed -/
structure ChB (c : Nat) (w w' : World) : Prop where
  os : w'.os = w.os
  tape : w'.tape = w.tape
  output : w'.output = w.output
  size : w.heap.size ≤ w'.heap.size
  block : ∀ k, k < w.heap.size → k ≠ c → w'.heap[k]? = w.heap[k]?
theorem ChB.refl (c : Nat) (w : World) : ChB c w w := ⟨rfl, rfl, rfl, Nat.le_refl _, fun _ _ _ => rfl⟩
theorem ChB.set {c o : Nat} {w w' : World} {v : Value} (h : ChB c w w') : ChB c w (w'.setCell ⟨c, o, none⟩ v) := ⟨h.os, h.tape, h.output, by rw [World.size_setCell]; exact h.size, fun k hk hne => (heap_setCell_other _ _ _ _ hne).trans (h.block k hk hne)⟩
theorem ChB.drew {c : Nat} {w w' : World} (h : ChB c w w') : ChB c w w'.drew := ⟨h.os, h.tape, h.output, h.size, h.block⟩
theorem ChB.trans {c : Nat} {w w1 w2 : World} (h : ChB c w w1) (k : ChB c w1 w2) : ChB c w w2 := ⟨k.os.trans h.os, k.tape.trans h.tape, k.output.trans h.output, Nat.le_trans h.size k.size, fun i hi hne => (k.block i (Nat.lt_of_lt_of_le hi h.size) hne).trans (h.block i hi hne)⟩
theorem ChB.of_below {c : Nat} {w w' : World} (h : Below w.heap.size w w') : ChB c w w' := ⟨h.os, h.tape, h.output, h.size, fun k hk _ => h.block k hk⟩
theorem PB.lt {w : World} {c : Nat} {p : PR} {t : TypeId} (h : PB w c p t) : c < w.heap.size := (Array.getElem?_eq_some_iff.1 h).1
theorem PB.later {w w' : World} {c : Nat} {p : PR} {t : TypeId} (h : PB w c p t) (hb : Below w.heap.size w w') : PB w' c p t := (hb.block c h.lt).trans h
theorem PB.cell {w : World} {c : Nat} {p : PR} {t : TypeId} (h : PB w c p t) : w.cell? ⟨c, 0, none⟩ = some (.int .i64 p.l0) ∧ w.cell? ⟨c, 1, none⟩ = some (.int .i64 p.l1) ∧ w.cell? ⟨c, 2, none⟩ = some (.int .i64 p.f0) ∧ w.cell? ⟨c, 3, none⟩ = some (.int .i64 p.f1) := by
  refine ⟨?_, ?_, ?_, ?_⟩ <;> (rw [cell_of_row w c _ _ _ (0, 0) h]; rfl)
theorem PB.frozen {w : World} {c : Nat} {p : PR} {t : TypeId} (h : PB w c p t) (o : Nat) : w.frozen? ⟨c, o, none⟩ = false := frozen_of_row w c o _ t h
theorem PB.set4 {w : World} {c : Nat} {p q : PR} {t : TypeId} (h : PB w c p t) : PB ((((w.setCell ⟨c, 0, none⟩ (.int .i64 q.l0)).setCell ⟨c, 1, none⟩ (.int .i64 q.l1)).setCell ⟨c, 2, none⟩ (.int .i64 q.f0)).setCell ⟨c, 3, none⟩ (.int .i64 q.f1)) c q t := by
  have h' : w.heap[c]? = some (.cells #[.int .i64 p.l0, .int .i64 p.l1, .int .i64 p.f0, .int .i64 p.f1] t (0, 0)) := h
  simp [PB, PR.cells, World.setCell, Array.getElem?_modify, h']
theorem PB.set13 {w : World} {c : Nat} {p : PR} {t : TypeId} {x f : Int} (h : PB w c p t) : PB ((w.setCell ⟨c, 1, none⟩ (.int .i64 x)).setCell ⟨c, 3, none⟩ (.int .i64 f)) c ⟨p.l0, x, p.f0, f⟩ t := by
  have h' : w.heap[c]? = some (.cells #[.int .i64 p.l0, .int .i64 p.l1, .int .i64 p.f0, .int .i64 p.f1] t (0, 0)) := h
  simp [PB, PR.cells, World.setCell, Array.getElem?_modify, h']
set_option maxHeartbeats 2000000 in
set_option maxRecDepth 100000 in
theorem offer_is (c : Nat) (p : PR) (t : TypeId) (x f : Int) (w : World) (h : PB w c p t) :
    Calls Try.prog 64 #[.pointer (some ⟨c, 0, none⟩), .int .i64 x, .int .i64 f] w fun e w' => (∃ v, e = .returned v) ∧ PB w' c (p.offer x f) t ∧ ChB c w w' := by
  obtain ⟨k0, k1, k2, k3⟩ := h.cell
  have fz := fun o => h.frozen o
  by_cases h1 : x = p.l0
  · rw [show p.offer x f = p from if_pos h1]
    have hx : (x == p.l0) = true := by simp [h1]
    replace h1 := hide' h1
    have H := hide' h
    clear h
    go_enter Try.func64, Try.ntmps64
    go_wp2_with fail
    refine bodyPost_end (v := .tuple #[]) (by kernel_rfl) rfl ?_
    exact ⟨⟨_, rfl⟩, H.out, ChB.refl _ _⟩
  · by_cases h2 : f > p.f0
    · rw [show p.offer x f = ⟨x, p.l0, f, p.f0⟩ from by unfold PR.offer; rw [if_neg h1, if_pos h2]]
      have hx : (x == p.l0) = false := by simp [h1]
      replace h1 := hide' h1
      have H := hide' (PB.set4 (q := ⟨x, p.l0, f, p.f0⟩) h)
      clear h
      go_enter Try.func64, Try.ntmps64
      go_wp2_with fail
      go_region
      all_goals go_wp2_with fail
      all_goals refine bodyPost_end (v := .tuple #[]) (by kernel_rfl) rfl ?_
      all_goals exact ⟨⟨_, rfl⟩, H.out, (ChB.set (ChB.set (ChB.set (ChB.set (ChB.refl _ _))))).drew⟩
    · by_cases h3 : f > p.f1
      · rw [show p.offer x f = ⟨p.l0, x, p.f0, f⟩ from by unfold PR.offer; rw [if_neg h1, if_neg h2, if_pos h3]]
        have hx : (x == p.l0) = false := by simp [h1]
        replace h1 := hide' h1
        have H := hide' (PB.set13 (x := x) (f := f) h)
        clear h
        go_enter Try.func64, Try.ntmps64
        go_wp2_with fail
        go_region
        all_goals go_wp2_with fail
        all_goals refine bodyPost_end (v := .tuple #[]) (by kernel_rfl) rfl ?_
        all_goals exact ⟨⟨_, rfl⟩, H.out, (ChB.set (ChB.set (ChB.refl _ _))).drew⟩
      · rw [show p.offer x f = p from by unfold PR.offer; rw [if_neg h1, if_neg h2, if_neg h3]]
        have hx : (x == p.l0) = false := by simp [h1]
        replace h1 := hide' h1
        have H := hide' h
        clear h
        go_enter Try.func64, Try.ntmps64
        go_wp2_with fail
        refine bodyPost_end (v := .tuple #[]) (by kernel_rfl) rfl ?_
        exact ⟨⟨_, rfl⟩, H.out, ChB.refl _ _⟩
end Go.Proofs.Ytfodejhipnmgnaa
