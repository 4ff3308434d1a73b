import Derived.Test.YtejlnodillnoaaaGreatDoorWI1
set_option linter.unusedSimpArgs false
namespace Go.Proofs.YtejlnodillnoaaaGreatDoor
open Go.RowKit
set_option linter.unusedVariables false
theorem results_cct {fn : Func} {p p2 p3 : Tmp} {ty ty2 : TypeId} (h : fn.results = #[.cell p ty, .cell p2 ty2, .tmp p3]) (tmps : Array Value) (P : Program) (w : World) :
    (results fn tmps).run P w = ((asAddr (tmps.getD p undef)).run P w).andThen fun a w1 => ((loadVar ty a).run P w1).andThen fun v w2 => ((asAddr (tmps.getD p2 undef)).run P w2).andThen fun a2 w3 => ((loadVar ty2 a2).run P w3).andThen fun v2 w4 => .ok (.tuple #[v, v2, tmps.getD p3 undef]) w4 := by
  simp only [results, h]
  simp [Sem.run_bind]
structure Mid (lo hi : Nat) (w w' : World) : Prop where
  os : w'.os = w.os
  tape : w'.tape = w.tape
  output : w'.output = w.output
  size : w.heap.size ≤ w'.heap.size
  other : ∀ k, k < w.heap.size → (k < lo ∨ hi ≤ k) → w'.heap[k]? = w.heap[k]?
theorem Mid.refl (lo hi : Nat) (w : World) : Mid lo hi w w := ⟨rfl, rfl, rfl, Nat.le_refl _, fun _ _ _ => rfl⟩
theorem Mid.set {lo hi : Nat} {w w' : World} (h : Mid lo hi w w') (c o : Nat) (h1 : lo ≤ c) (h2 : c < hi) (u : Value) : Mid lo hi w (w'.setCell ⟨c, o, none⟩ u) :=
  ⟨h.os, h.tape, h.output, by have := h.size; simpa [World.setCell] using this, fun k hk hor => by rw [Below.heap_setCell _ _ _ _ (by show k ≠ c; omega)]; exact h.other k hk hor⟩
theorem Mid.drew {lo hi : Nat} {w w' : World} (h : Mid lo hi w w') : Mid lo hi w w'.drew := ⟨h.os, h.tape, h.output, h.size, h.other⟩
theorem Mid.below {lo hi : Nat} {w w' : World} (h : Mid lo hi w w') (hl : lo ≤ w.heap.size) : Below lo w w' := ⟨h.os, h.tape, h.output, h.size, fun k hk => h.other k (by omega) (Or.inl hk)⟩
theorem New.mid {w L w6 w' : World} {a : Option Addr} {Z n : Nat} (h : New L w6 a Z n) (hB : Below w.heap.size w L) (hM : Mid w.heap.size L.heap.size w6 w') : New w w' a Z n := by
  have hs := Nat.le_trans hB.size h.below.size
  refine ⟨⟨h.seg.1, fun hn => ?_⟩, (hB.trans (h.below.mono hB.size)).trans (hM.below hs), fun hn => ?_⟩
  · obtain ⟨b, off, rfl, hb, hr⟩ := h.fresh hn
    refine ⟨b, off, rfl, Nat.lt_of_lt_of_le hr.lt hM.size, fun i hi => ?_⟩
    rw [World.cell?_of_block (w := w6) (a := ⟨b, off + i, none⟩) (hM.other b hr.lt (Or.inr hb))]
    exact h.seg.cells i hi
  · obtain ⟨b, off, e, hb, hr⟩ := h.fresh hn
    have hlt := hr.lt
    obtain ⟨cur, t, hh⟩ := hr
    exact ⟨b, off, e, Nat.le_trans hB.size hb, cur, t, by rw [hM.other b hlt (Or.inr hb)]; exact hh⟩
structure Fre (lo : Nat) (w' : World) (ao : Option Addr) (Z n : Nat) : Prop where
  seg : Seg w' ao Z n
  fresh : 0 < n → ∃ b off, ao = some ⟨b, off, none⟩ ∧ lo ≤ b ∧ Row w' b
theorem New.fre {w w' : World} {a : Option Addr} {Z n : Nat} (h : New w w' a Z n) : Fre w.heap.size w' a Z n := ⟨h.seg, h.fresh⟩
theorem Fre.later {lo : Nat} {w1 w' : World} {a : Option Addr} {Z n : Nat} (h : Fre lo w1 a Z n) (hb : Below w1.heap.size w1 w') : Fre lo w' a Z n :=
  ⟨h.seg.below hb (Nat.le_refl _), fun hn => by obtain ⟨b, off, e, hlt, hr⟩ := h.fresh hn; exact ⟨b, off, e, hlt, hr.below hb hr.lt⟩⟩
theorem Fre.drew {lo : Nat} {w' : World} {a : Option Addr} {Z n : Nat} (h : Fre lo w' a Z n) : Fre lo w'.drew a Z n := ⟨h.seg, h.fresh⟩
theorem Fre.mid {lo hi : Nat} {w6 w' : World} {a : Option Addr} {Z n : Nat} (h : Fre hi w6 a Z n) (hM : Mid lo hi w6 w') : Fre hi w' a Z n := by
  refine ⟨⟨h.seg.1, fun hn => ?_⟩, fun hn => ?_⟩
  · obtain ⟨b, off, rfl, hb, hr⟩ := h.fresh hn
    refine ⟨b, off, rfl, Nat.lt_of_lt_of_le hr.lt hM.size, fun i hi => ?_⟩
    rw [World.cell?_of_block (w := w6) (a := ⟨b, off + i, none⟩) (hM.other b hr.lt (Or.inr hb))]
    exact h.seg.cells i hi
  · obtain ⟨b, off, e, hb, hr⟩ := h.fresh hn
    have hlt := hr.lt
    obtain ⟨cur, t, hh⟩ := hr
    exact ⟨b, off, e, hb, cur, t, by rw [hM.other b hlt (Or.inr hb)]; exact hh⟩
theorem set2_same {w : World} {c : Nat} {u v u0 v0 : Value} (h0 : w.cell? ⟨c, 0, none⟩ = some u0) (h1 : w.cell? ⟨c, 1, none⟩ = some v0) :
    ((w.setCell ⟨c, 0, none⟩ u).setCell ⟨c, 1, none⟩ v).cell? ⟨c, 0, none⟩ = some u ∧ ((w.setCell ⟨c, 0, none⟩ u).setCell ⟨c, 1, none⟩ v).cell? ⟨c, 1, none⟩ = some v := by
  refine ⟨?_, ?_⟩
  · rw [World.cell?_setCell_other _ _ _ _ (fun e => by simp at e)]
    exact World.cell?_setCell_same _ _ _ h0
  · exact World.cell?_setCell_same (u := v0) _ _ _ (by rw [World.cell?_setCell_other _ _ _ _ (fun e => by simp at e)]; exact h1)
theorem set2_far {w : World} {b c o : Nat} {u v : Value} (hne : c ≠ b) : ((w.setCell ⟨c, 0, none⟩ u).setCell ⟨c, 1, none⟩ v).cell? ⟨b, o, none⟩ = w.cell? ⟨b, o, none⟩ := by
  rw [World.cell?_setCell_far _ _ _ _ (by exact hne), World.cell?_setCell_far _ _ _ _ (by exact hne)]
theorem kpT4 {w W : World} {b d c : Nat} {v0 v1 v2 v3 u v : Value} (h : W.drew.cell? ⟨b, 0, none⟩ = some v0 ∧ W.drew.cell? ⟨b, 1, none⟩ = some v1 ∧ W.drew.cell? ⟨d, 0, none⟩ = some v2 ∧ W.drew.cell? ⟨d, 1, none⟩ = some v3 ∧ Below w.heap.size w W.drew) (hne : c ≠ b) (hne2 : c ≠ d) (hc : w.heap.size ≤ c) :
    ((W.setCell ⟨c, 0, none⟩ u).setCell ⟨c, 1, none⟩ v).drew.cell? ⟨b, 0, none⟩ = some v0 ∧ ((W.setCell ⟨c, 0, none⟩ u).setCell ⟨c, 1, none⟩ v).drew.cell? ⟨b, 1, none⟩ = some v1 ∧ ((W.setCell ⟨c, 0, none⟩ u).setCell ⟨c, 1, none⟩ v).drew.cell? ⟨d, 0, none⟩ = some v2 ∧ ((W.setCell ⟨c, 0, none⟩ u).setCell ⟨c, 1, none⟩ v).drew.cell? ⟨d, 1, none⟩ = some v3 ∧ Below w.heap.size w ((W.setCell ⟨c, 0, none⟩ u).setCell ⟨c, 1, none⟩ v).drew := by
  have hb : Below w.heap.size w W := ⟨h.2.2.2.2.os, h.2.2.2.2.tape, h.2.2.2.2.output, h.2.2.2.2.size, h.2.2.2.2.block⟩
  have k := kpS4 (o := 1) (u := v) (kpS4 (W := W) (o := 0) (u := u) ⟨h.1, h.2.1, h.2.2.1, h.2.2.2.1, hb⟩ hne hne2 hc) hne hne2 hc
  exact ⟨k.1, k.2.1, k.2.2.1, k.2.2.2.1, k.2.2.2.2.drew⟩
theorem New.ret2 {w W w3 : World} {a : Option Addr} {Z n c d : Nat} (h : New W w3 a Z n) (hB : Below w.heap.size w W) (hc : w.heap.size ≤ c) (hcW : c < W.heap.size) (hd : w.heap.size ≤ d) (hdW : d < W.heap.size) (u v u2 v2 : Value) :
    New w ((((w3.setCell ⟨c, 0, none⟩ u).setCell ⟨c, 1, none⟩ v).setCell ⟨d, 0, none⟩ u2).setCell ⟨d, 1, none⟩ v2) a Z n := by
  have hk : Wr c 0 2 w3 ((w3.setCell ⟨c, 0, none⟩ u).setCell ⟨c, 1, none⟩ v) := ((Wr.refl _ _ _ _).setCell 0 (by omega) (by omega) u).setCell 1 (by omega) (by omega) v
  generalize (w3.setCell ⟨c, 0, none⟩ u).setCell ⟨c, 1, none⟩ v = w4 at hk ⊢
  have hk2 : Wr d 0 2 w4 ((w4.setCell ⟨d, 0, none⟩ u2).setCell ⟨d, 1, none⟩ v2) := ((Wr.refl _ _ _ _).setCell 0 (by omega) (by omega) u2).setCell 1 (by omega) (by omega) v2
  have hs3 := Nat.le_trans hB.size h.below.size
  refine ⟨?_, ((hB.trans (h.below.mono hB.size)).trans (hk.below hc hs3)).trans (hk2.below hd (Nat.le_trans hs3 hk.size)), fun hn => ?_⟩
  · by_cases hn : 0 < n
    · obtain ⟨b, off, rfl, hb, hr⟩ := h.fresh hn
      refine (h.seg.wr hk fun o e => ?_).wr hk2 fun o e => ?_
      · simp only [Option.some.injEq, Addr.mk.injEq] at e
        omega
      · simp only [Option.some.injEq, Addr.mk.injEq] at e
        omega
    · exact ⟨h.seg.1, fun h => absurd h hn⟩
  · obtain ⟨b, off, e, hb, hr⟩ := h.fresh hn
    exact ⟨b, off, e, Nat.le_trans hB.size hb, ((hr.of_wr hk (by omega)).setCell _ _).setCell _ _⟩
theorem res_eq3 {s t : Bool} {a b : Option Addr} {X Y : Nat} {Z V : Int} {e : Int} (hz : sg s X = Z) (hv : sg t Y = V) : Ending.returned (.tuple #[.agg #[.bool (s && decide (0 < ln X)), .slice a (ln X) (ln X)], .agg #[.bool (t && decide (0 < ln Y)), .slice b (ln Y) (ln Y)], .int .i64 e]) =
    .returned (.tuple #[.agg #[.bool (ng Z), .slice a (ln (am Z)) (ln (am Z))], .agg #[.bool (ng V), .slice b (ln (am V)) (ln (am V))], .int .i64 e]) := by
  subst hz hv; rw [am_sg, ng_sg, am_sg, ng_sg]
theorem kpS8 {w W : World} {b0 b1 b2 b3 c o : Nat} {v0 v1 v2 v3 v4 v5 v6 v7 u : Value} (h : W.cell? ⟨b0, 0, none⟩ = some v0 ∧ W.cell? ⟨b0, 1, none⟩ = some v1 ∧ W.cell? ⟨b1, 0, none⟩ = some v2 ∧ W.cell? ⟨b1, 1, none⟩ = some v3 ∧ W.cell? ⟨b2, 0, none⟩ = some v4 ∧ W.cell? ⟨b2, 1, none⟩ = some v5 ∧ W.cell? ⟨b3, 0, none⟩ = some v6 ∧ W.cell? ⟨b3, 1, none⟩ = some v7 ∧ Below w.heap.size w W) (hne0 : c ≠ b0) (hne1 : c ≠ b1) (hne2 : c ≠ b2) (hne3 : c ≠ b3) (hc : w.heap.size ≤ c) :
    (W.setCell ⟨c, o, none⟩ u).cell? ⟨b0, 0, none⟩ = some v0 ∧ (W.setCell ⟨c, o, none⟩ u).cell? ⟨b0, 1, none⟩ = some v1 ∧ (W.setCell ⟨c, o, none⟩ u).cell? ⟨b1, 0, none⟩ = some v2 ∧ (W.setCell ⟨c, o, none⟩ u).cell? ⟨b1, 1, none⟩ = some v3 ∧ (W.setCell ⟨c, o, none⟩ u).cell? ⟨b2, 0, none⟩ = some v4 ∧ (W.setCell ⟨c, o, none⟩ u).cell? ⟨b2, 1, none⟩ = some v5 ∧ (W.setCell ⟨c, o, none⟩ u).cell? ⟨b3, 0, none⟩ = some v6 ∧ (W.setCell ⟨c, o, none⟩ u).cell? ⟨b3, 1, none⟩ = some v7 ∧ Below w.heap.size w (W.setCell ⟨c, o, none⟩ u) :=
  ⟨by rw [World.cell?_setCell_far _ _ _ _ (by exact hne0)]; exact h.1, by rw [World.cell?_setCell_far _ _ _ _ (by exact hne0)]; exact h.2.1, by rw [World.cell?_setCell_far _ _ _ _ (by exact hne1)]; exact h.2.2.1, by rw [World.cell?_setCell_far _ _ _ _ (by exact hne1)]; exact h.2.2.2.1, by rw [World.cell?_setCell_far _ _ _ _ (by exact hne2)]; exact h.2.2.2.2.1, by rw [World.cell?_setCell_far _ _ _ _ (by exact hne2)]; exact h.2.2.2.2.2.1, by rw [World.cell?_setCell_far _ _ _ _ (by exact hne3)]; exact h.2.2.2.2.2.2.1, by rw [World.cell?_setCell_far _ _ _ _ (by exact hne3)]; exact h.2.2.2.2.2.2.2.1, h.2.2.2.2.2.2.2.2.setCell hc _⟩
end Go.Proofs.YtejlnodillnoaaaGreatDoor
