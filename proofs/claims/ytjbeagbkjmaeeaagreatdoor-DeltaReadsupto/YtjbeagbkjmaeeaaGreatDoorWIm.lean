/-
  Stores into variables and results behind a call: what stays.
-/
import Derived.Test.YtjbeagbkjmaeeaaGreatDoorWI1
namespace Go.Proofs.YtjbeagbkjmaeeaaGreatDoor
open Go.RowKit
set_option linter.unusedVariables false

theorem results_cct {fn : Func} {p p2 p3 : Tmp} {ty ty2 : TypeId} (h : fn.results = #[.cell p ty, .cell p2 ty2, .tmp p3]) (tmps : Array Value) (P : Program) (w : World) :
    (results fn tmps).run P w = ((asAddr (tmps.getD p undef)).run P w).andThen fun a w1 => ((loadVar ty a).run P w1).andThen fun v w2 => ((asAddr (tmps.getD p2 undef)).run P w2).andThen fun a2 w3 => ((loadVar ty2 a2).run P w3).andThen fun v2 w4 => .ok (.tuple #[v, v2, tmps.getD p3 undef]) w4 := by
  simp only [results, h]
  simp [Sem.run_bind]
/-- writes into the blocks lo .. hi - 1 alone -/
structure Mid (lo hi : Nat) (w w' : World) : Prop where
  os : w'.os = w.os
  tape : w'.tape = w.tape
  output : w'.output = w.output
  size : w.heap.size ≤ w'.heap.size
  other : ∀ k, k < w.heap.size → (k < lo ∨ hi ≤ k) → w'.heap[k]? = w.heap[k]?
theorem Mid.refl (lo hi : Nat) (w : World) : Mid lo hi w w := ⟨rfl, rfl, rfl, Nat.le_refl _, fun _ _ _ => rfl⟩
theorem Mid.set {lo hi : Nat} {w w' : World} (h : Mid lo hi w w') (c o : Nat) (h1 : lo ≤ c) (h2 : c < hi) (u : Value) : Mid lo hi w (w'.setCell ⟨c, o, none⟩ u) :=
  ⟨h.os, h.tape, h.output, by have := h.size; simpa [World.setCell] using this, fun k hk hor => by rw [Below.heap_setCell _ _ _ _ (by show k ≠ c; omega)]; exact h.other k hk hor⟩
theorem Mid.drew {lo hi : Nat} {w w' : World} (h : Mid lo hi w w') : Mid lo hi w w'.drew := ⟨h.os, h.tape, h.output, h.size, h.other⟩
theorem Mid.below {lo hi : Nat} {w w' : World} (h : Mid lo hi w w') (hl : lo ≤ w.heap.size) : Below lo w w' := ⟨h.os, h.tape, h.output, h.size, fun k hk => h.other k (by omega) (Or.inl hk)⟩
theorem New.mid {w L w6 w' : World} {a : Option Addr} {Z n : Nat} (h : New L w6 a Z n) (hB : Below w.heap.size w L) (hM : Mid w.heap.size L.heap.size w6 w') : New w w' a Z n := by
  have hs := Nat.le_trans hB.size h.below.size
  refine ⟨⟨h.seg.1, fun hn => ?_⟩, (hB.trans (h.below.mono hB.size)).trans (hM.below hs), fun hn => ?_⟩
  · obtain ⟨b, off, rfl, hb, hr⟩ := h.fresh hn
    refine ⟨b, off, rfl, Nat.lt_of_lt_of_le hr.lt hM.size, fun i hi => ?_⟩
    rw [World.cell?_of_block (w := w6) (a := ⟨b, off + i, none⟩) (hM.other b hr.lt (Or.inr hb))]
    exact h.seg.cells i hi
  · obtain ⟨b, off, e, hb, hr⟩ := h.fresh hn
    have hlt := hr.lt
    obtain ⟨cur, t, hh⟩ := hr
    exact ⟨b, off, e, Nat.le_trans hB.size hb, cur, t, by rw [hM.other b hlt (Or.inr hb)]; exact hh⟩
/-- a slice in a block from lo on, whatever happened below -/
structure Fre (lo : Nat) (w' : World) (ao : Option Addr) (Z n : Nat) : Prop where
  seg : Seg w' ao Z n
  fresh : 0 < n → ∃ b off, ao = some ⟨b, off, none⟩ ∧ lo ≤ b ∧ Row w' b
theorem New.fre {w w' : World} {a : Option Addr} {Z n : Nat} (h : New w w' a Z n) : Fre w.heap.size w' a Z n := ⟨h.seg, h.fresh⟩
theorem Fre.later {lo : Nat} {w1 w' : World} {a : Option Addr} {Z n : Nat} (h : Fre lo w1 a Z n) (hb : Below w1.heap.size w1 w') : Fre lo w' a Z n :=
  ⟨h.seg.below hb (Nat.le_refl _), fun hn => by obtain ⟨b, off, e, hlt, hr⟩ := h.fresh hn; exact ⟨b, off, e, hlt, hr.below hb hr.lt⟩⟩
theorem Fre.drew {lo : Nat} {w' : World} {a : Option Addr} {Z n : Nat} (h : Fre lo w' a Z n) : Fre lo w'.drew a Z n := ⟨h.seg, h.fresh⟩
theorem Fre.mid {lo hi : Nat} {w6 w' : World} {a : Option Addr} {Z n : Nat} (h : Fre hi w6 a Z n) (hM : Mid lo hi w6 w') : Fre hi w' a Z n := by
  refine ⟨⟨h.seg.1, fun hn => ?_⟩, fun hn => ?_⟩
  · obtain ⟨b, off, rfl, hb, hr⟩ := h.fresh hn
    refine ⟨b, off, rfl, Nat.lt_of_lt_of_le hr.lt hM.size, fun i hi => ?_⟩
    rw [World.cell?_of_block (w := w6) (a := ⟨b, off + i, none⟩) (hM.other b hr.lt (Or.inr hb))]
    exact h.seg.cells i hi
  · obtain ⟨b, off, e, hb, hr⟩ := h.fresh hn
    have hlt := hr.lt
    obtain ⟨cur, t, hh⟩ := hr
    exact ⟨b, off, e, hb, cur, t, by rw [hM.other b hlt (Or.inr hb)]; exact hh⟩
/-- two answers, behind the stores of both -/
theorem New.ret2 {w W w3 : World} {a : Option Addr} {Z n c d : Nat} (h : New W w3 a Z n) (hB : Below w.heap.size w W) (hc : w.heap.size ≤ c) (hcW : c < W.heap.size) (hd : w.heap.size ≤ d) (hdW : d < W.heap.size) (u v u2 v2 : Value) :
    New w ((((w3.setCell ⟨c, 0, none⟩ u).setCell ⟨c, 1, none⟩ v).setCell ⟨d, 0, none⟩ u2).setCell ⟨d, 1, none⟩ v2) a Z n := by
  have hk : Wr c 0 2 w3 ((w3.setCell ⟨c, 0, none⟩ u).setCell ⟨c, 1, none⟩ v) := ((Wr.refl _ _ _ _).setCell 0 (by omega) (by omega) u).setCell 1 (by omega) (by omega) v
  generalize (w3.setCell ⟨c, 0, none⟩ u).setCell ⟨c, 1, none⟩ v = w4 at hk ⊢
  have hk2 : Wr d 0 2 w4 ((w4.setCell ⟨d, 0, none⟩ u2).setCell ⟨d, 1, none⟩ v2) := ((Wr.refl _ _ _ _).setCell 0 (by omega) (by omega) u2).setCell 1 (by omega) (by omega) v2
  have hs3 := Nat.le_trans hB.size h.below.size
  refine ⟨?_, ((hB.trans (h.below.mono hB.size)).trans (hk.below hc hs3)).trans (hk2.below hd (Nat.le_trans hs3 hk.size)), fun hn => ?_⟩
  · by_cases hn : 0 < n
    · obtain ⟨b, off, rfl, hb, hr⟩ := h.fresh hn
      refine (h.seg.wr hk fun o e => ?_).wr hk2 fun o e => ?_
      · simp only [Option.some.injEq, Addr.mk.injEq] at e
        omega
      · simp only [Option.some.injEq, Addr.mk.injEq] at e
        omega
    · exact ⟨h.seg.1, fun h => absurd h hn⟩
  · obtain ⟨b, off, e, hb, hr⟩ := h.fresh hn
    exact ⟨b, off, e, Nat.le_trans hB.size hb, ((hr.of_wr hk (by omega)).setCell _ _).setCell _ _⟩

theorem res_eq3 {s t : Bool} {a b : Option Addr} {X Y : Nat} {Z V : Int} {e : Int} (hz : sg s X = Z) (hv : sg t Y = V) : Ending.returned (.tuple #[.agg #[.bool (s && decide (0 < ln X)), .slice a (ln X) (ln X)], .agg #[.bool (t && decide (0 < ln Y)), .slice b (ln Y) (ln Y)], .int .i64 e]) =
    .returned (.tuple #[.agg #[.bool (ng Z), .slice a (ln (am Z)) (ln (am Z))], .agg #[.bool (ng V), .slice b (ln (am V)) (ln (am V))], .int .i64 e]) := by
  subst hz hv; rw [am_sg, ng_sg, am_sg, ng_sg]

end Go.Proofs.YtjbeagbkjmaeeaaGreatDoor
