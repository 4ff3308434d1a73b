/-
  Stores into variables and results behind a call: what stays.
-/
import Derived.Test.YtabchggnalbbcaaWI1
namespace Go.Proofs.Ytabchggnalbbcaa
open Go.RowKit
set_option linter.unusedVariables false

/-- writes into the blocks lo .. hi - 1 alone -/
structure Mid (lo hi : Nat) (w w' : World) : Prop where
  os : w'.os = w.os
  tape : w'.tape = w.tape
  output : w'.output = w.output
  size : w.heap.size ≤ w'.heap.size
  other : ∀ k, k < w.heap.size → (k < lo ∨ hi ≤ k) → w'.heap[k]? = w.heap[k]?
theorem Mid.refl (lo hi : Nat) (w : World) : Mid lo hi w w := ⟨rfl, rfl, rfl, Nat.le_refl _, fun _ _ _ => rfl⟩
theorem Mid.set {lo hi : Nat} {w w' : World} (h : Mid lo hi w w') (c o : Nat) (h1 : lo ≤ c) (h2 : c < hi) (u : Value) : Mid lo hi w (w'.setCell ⟨c, o, none⟩ u) :=
  ⟨h.os, h.tape, h.output, by have := h.size; simpa [World.setCell] using this, fun k hk hor => by rw [Below.heap_setCell _ _ _ _ (by show k ≠ c; omega)]; exact h.other k hk hor⟩
theorem Mid.drew {lo hi : Nat} {w w' : World} (h : Mid lo hi w w') : Mid lo hi w w'.drew := ⟨h.os, h.tape, h.output, h.size, h.other⟩
theorem Mid.below {lo hi : Nat} {w w' : World} (h : Mid lo hi w w') (hl : lo ≤ w.heap.size) : Below lo w w' := ⟨h.os, h.tape, h.output, h.size, fun k hk => h.other k (by omega) (Or.inl hk)⟩
theorem New.mid {w L w6 w' : World} {a : Option Addr} {Z n : Nat} (h : New L w6 a Z n) (hB : Below w.heap.size w L) (hM : Mid w.heap.size L.heap.size w6 w') : New w w' a Z n := by
  have hs := Nat.le_trans hB.size h.below.size
  refine ⟨⟨h.seg.1, fun hn => ?_⟩, (hB.trans (h.below.mono hB.size)).trans (hM.below hs), fun hn => ?_⟩
  · obtain ⟨b, off, rfl, hb, hr⟩ := h.fresh hn
    refine ⟨b, off, rfl, Nat.lt_of_lt_of_le hr.lt hM.size, fun i hi => ?_⟩
    rw [World.cell?_of_block (w := w6) (a := ⟨b, off + i, none⟩) (hM.other b hr.lt (Or.inr hb))]
    exact h.seg.cells i hi
  · obtain ⟨b, off, e, hb, hr⟩ := h.fresh hn
    have hlt := hr.lt
    obtain ⟨cur, t, hh⟩ := hr
    exact ⟨b, off, e, Nat.le_trans hB.size hb, cur, t, by rw [hM.other b hlt (Or.inr hb)]; exact hh⟩
/-- a slice in a block from lo on, whatever happened below -/
structure Fre (lo : Nat) (w' : World) (ao : Option Addr) (Z n : Nat) : Prop where
  seg : Seg w' ao Z n
  fresh : 0 < n → ∃ b off, ao = some ⟨b, off, none⟩ ∧ lo ≤ b ∧ Row w' b
theorem New.fre {w w' : World} {a : Option Addr} {Z n : Nat} (h : New w w' a Z n) : Fre w.heap.size w' a Z n := ⟨h.seg, h.fresh⟩
theorem Fre.later {lo : Nat} {w1 w' : World} {a : Option Addr} {Z n : Nat} (h : Fre lo w1 a Z n) (hb : Below w1.heap.size w1 w') : Fre lo w' a Z n :=
  ⟨h.seg.below hb (Nat.le_refl _), fun hn => by obtain ⟨b, off, e, hlt, hr⟩ := h.fresh hn; exact ⟨b, off, e, hlt, hr.below hb hr.lt⟩⟩
theorem Fre.drew {lo : Nat} {w' : World} {a : Option Addr} {Z n : Nat} (h : Fre lo w' a Z n) : Fre lo w'.drew a Z n := ⟨h.seg, h.fresh⟩
theorem Fre.mid {lo hi : Nat} {w6 w' : World} {a : Option Addr} {Z n : Nat} (h : Fre hi w6 a Z n) (hM : Mid lo hi w6 w') : Fre hi w' a Z n := by
  refine ⟨⟨h.seg.1, fun hn => ?_⟩, fun hn => ?_⟩
  · obtain ⟨b, off, rfl, hb, hr⟩ := h.fresh hn
    refine ⟨b, off, rfl, Nat.lt_of_lt_of_le hr.lt hM.size, fun i hi => ?_⟩
    rw [World.cell?_of_block (w := w6) (a := ⟨b, off + i, none⟩) (hM.other b hr.lt (Or.inr hb))]
    exact h.seg.cells i hi
  · obtain ⟨b, off, e, hb, hr⟩ := h.fresh hn
    have hlt := hr.lt
    obtain ⟨cur, t, hh⟩ := hr
    exact ⟨b, off, e, hb, cur, t, by rw [hM.other b hlt (Or.inr hb)]; exact hh⟩
theorem set2_same {w : World} {c : Nat} {u v u0 v0 : Value} (h0 : w.cell? ⟨c, 0, none⟩ = some u0) (h1 : w.cell? ⟨c, 1, none⟩ = some v0) :
    ((w.setCell ⟨c, 0, none⟩ u).setCell ⟨c, 1, none⟩ v).cell? ⟨c, 0, none⟩ = some u ∧ ((w.setCell ⟨c, 0, none⟩ u).setCell ⟨c, 1, none⟩ v).cell? ⟨c, 1, none⟩ = some v := by
  refine ⟨?_, ?_⟩
  · rw [World.cell?_setCell_other _ _ _ _ (fun e => by simp at e)]
    exact World.cell?_setCell_same _ _ _ h0
  · exact World.cell?_setCell_same (u := v0) _ _ _ (by rw [World.cell?_setCell_other _ _ _ _ (fun e => by simp at e)]; exact h1)
end Go.Proofs.Ytabchggnalbbcaa
