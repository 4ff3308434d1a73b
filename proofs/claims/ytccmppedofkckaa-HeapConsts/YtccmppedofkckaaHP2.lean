/-
  heap: a heap of two variables in memory; put, rise.
-/
import Derived.Test.YtccmppedofkckaaHP1
namespace Go.Proofs.Ytccmppedofkckaa
open Go.RowKit
set_option linter.unusedVariables false
set_option linter.unusedSimpArgs false
/-- numbers in a row -/
def hv (zs : List Int) : List Value := zs.map (Value.int .i64)
theorem hv_length (zs : List Int) : (hv zs).length = zs.length := List.length_map _
theorem hv_at {zs : List Int} {i : Nat} {z : Int} (h : zs[i]? = some z) : (hv zs)[i]? = some (.int .i64 z) := by unfold hv; rw [List.getElem?_map, h]; rfl
theorem hv_set (zs : List Int) (i : Nat) (z : Int) : (hv zs).set i (.int .i64 z) = hv (zs.set i z) := by unfold hv; rw [List.map_set]
/-- a heap of two variables: b is where it lies, s its scores, p its places, v the tree with xs; f1 the score of 1; q0, q1 the places -/
structure HS (W0 w : World) (B b s p : Nat) (v : Value) (f1 : Nat) (q0 q1 : Int) (xs : List Int) : Prop where
  gb : W0.heap.size ≤ b
  gs : W0.heap.size ≤ s
  gp : W0.heap.size ≤ p
  gB : W0.heap.size ≤ B
  bel : Below W0.heap.size W0 w
  lb : b < B
  ls : s < B
  lp : p < B
  bs : b ≠ s
  bp : b ≠ p
  sp : s ≠ p
  lB : B ≤ w.heap.size
  c0 : w.cell? ⟨b, 0, none⟩ = some (.slice (some ⟨s, 0, none⟩) 2 2)
  c1 : w.cell? ⟨b, 1, none⟩ = some v
  c2 : w.cell? ⟨b, 2, none⟩ = some (.slice (some ⟨p, 0, none⟩) 2 2)
  c3 : w.cell? ⟨b, 3, none⟩ = some (.float .f64 4607182418800017408)
  s0 : w.cell? ⟨s, 0, none⟩ = some (.float .f64 0)
  s1 : w.cell? ⟨s, 1, none⟩ = some (.float .f64 f1)
  p0 : w.cell? ⟨p, 0, none⟩ = some (.int .i64 q0)
  p1 : w.cell? ⟨p, 1, none⟩ = some (.int .i64 q1)
  fb : w.frozen? ⟨b, 1, none⟩ = false
  fs : w.frozen? ⟨s, 1, none⟩ = false
  f0 : w.frozen? ⟨p, 0, none⟩ = false
  fp : w.frozen? ⟨p, 1, none⟩ = false
  own : w.ownsRow B 3 1 v xs.length (hv xs)
theorem HS.drewN {W0 w : World} {B b s p : Nat} {v : Value} {f1 : Nat} {q0 q1 : Int} {xs : List Int} (h : HS W0 w B b s p v f1 q0 q1 xs) (k : Nat) : HS W0 (w.drewN k) B b s p v f1 q0 q1 xs :=
  ⟨h.gb, h.gs, h.gp, h.gB, ⟨h.bel.os, h.bel.tape, h.bel.output, h.bel.size, h.bel.block⟩, h.lb, h.ls, h.lp, h.bs, h.bp, h.sp, h.lB, h.c0, h.c1, h.c2, h.c3, h.s0, h.s1, h.p0, h.p1, h.fb, h.fs, h.f0, h.fp, h.own⟩
/-- its tree -/
theorem HS.tree {W0 w : World} {B b s p : Nat} {v : Value} {f1 : Nat} {q0 q1 : Int} {xs : List Int} (h : HS W0 w B b s p v f1 q0 q1 xs) (hn : 0 < xs.length) : ∃ t c, v = .slice (some ⟨t, 0, none⟩) xs.length c ∧ B ≤ t ∧ (∀ i z, xs[i]? = some z → w.cell? ⟨t, i, none⟩ = some (.int .i64 z)) ∧ ∀ i, w.frozen? ⟨t, i, none⟩ = false := by
  have ho := h.own
  rcases h.own.2 with ⟨_, h0⟩ | ⟨t, c, cur, rfl, hb, _⟩
  · omega
  · refine ⟨t, c, rfl, hb, fun i z hz => ?_, fun i => ho.frozenAt i⟩
    have hi : i < xs.length := (List.getElem?_eq_some_iff.1 hz).1
    rw [ho.cellAt i (by omega)]
    exact hv_at hz
/-- far from the tree: a cell of another block -/
theorem far {w : World} {a : Addr} {v : Value} {x : Addr} {u : Value} (h : w.cell? x = some u) (hx : a.block ≠ x.block) : (w.setCell a v).cell? x = some u := by rw [World.cell?_setCell_far w a x v hx]; exact h
theorem near {w : World} {b i j : Nat} {v u : Value} (h : w.cell? ⟨b, j, none⟩ = some u) (hij : i ≠ j) : (w.setCell ⟨b, i, none⟩ v).cell? ⟨b, j, none⟩ = some u := by
  rw [World.cell?_setCell_other (w := w) (h := by intro e; injection e; contradiction)]; exact h
theorem same {w : World} {a : Addr} {v u : Value} (h : w.cell? a = some u) : (w.setCell a v).cell? a = some v := World.cell?_setCell_same' w a v (by rw [h]; rfl)
theorem frz {w : World} {a x : Addr} {v : Value} (h : w.frozen? x = false) : (w.setCell a v).frozen? x = false := by rw [World.frozen?_setCell]; exact h
theorem own_far {w : World} {base : Nat} {e : TypeId} {v : Value} {n : Nat} {xs : List Value} (h : w.ownsRow base e 1 v n xs) {a : Addr} {u : Value} (ha : a.block < base) : (w.setCell a u).ownsRow base e 1 v n xs := by
  refine ⟨h.1, ?_⟩
  rcases h.2 with h0 | ⟨g, cap, cur, hv, hg, hc, rest⟩
  · exact Or.inl h0
  · refine Or.inr ⟨g, cap, cur, hv, hg, ?_, rest⟩
    have h1 : (w.setCell a u).heap[g]? = w.heap[g]? := by simp [World.setCell, Array.getElem?_modify]; omega
    rw [h1]
    exact hc
theorem HS.setT {W0 w : World} {B b s p : Nat} {v : Value} {f1 : Nat} {q0 q1 : Int} {xs : List Int} (h : HS W0 w B b s p v f1 q0 q1 xs) {t c : Nat} (hv9 : v = .slice (some ⟨t, 0, none⟩) xs.length c) {k : Nat} (hk : k < xs.length) (z : Int) : HS W0 (w.setCell ⟨t, k, none⟩ (.int .i64 z)) B b s p v f1 q0 q1 (xs.set k z) := by
  subst hv9
  have hB : B ≤ t := (h.own.lt t rfl).1
  have gB := h.gB
  have lb := h.lb
  have ls := h.ls
  have lp := h.lp
  have hs := h.own.stored k (.int .i64 z)
  refine ⟨h.gb, h.gs, h.gp, h.gB, h.bel.setCell (show W0.heap.size ≤ t by omega) _, h.lb, h.ls, h.lp, h.bs, h.bp, h.sp, ?_, far h.c0 (by simp; omega), far h.c1 (by simp; omega), far h.c2 (by simp; omega), far h.c3 (by simp; omega), far h.s0 (by simp; omega), far h.s1 (by simp; omega), far h.p0 (by simp; omega), far h.p1 (by simp; omega), frz h.fb, frz h.fs, frz h.f0, frz h.fp, ?_⟩
  · rw [World.size_setCell]; exact h.lB
  · rw [List.length_set, ← hv_set]; exact hs.1
theorem HS.setP0 {W0 w : World} {B b s p : Nat} {v : Value} {f1 : Nat} {q0 q1 : Int} {xs : List Int} (h : HS W0 w B b s p v f1 q0 q1 xs) (z : Int) : HS W0 (w.setCell ⟨p, 0, none⟩ (.int .i64 z)) B b s p v f1 z q1 xs := by
  have bp := h.bp
  have sp := h.sp
  have lp := h.lp
  refine ⟨h.gb, h.gs, h.gp, h.gB, h.bel.setCell (h.gp) _, h.lb, h.ls, h.lp, h.bs, h.bp, h.sp, ?_, far h.c0 (by simp; omega), far h.c1 (by simp; omega), far h.c2 (by simp; omega), far h.c3 (by simp; omega), far h.s0 (by simp; omega), far h.s1 (by simp; omega), same h.p0, near h.p1 (by omega), frz h.fb, frz h.fs, frz h.f0, frz h.fp, own_far h.own lp⟩
  rw [World.size_setCell]; exact h.lB
theorem HS.setP1 {W0 w : World} {B b s p : Nat} {v : Value} {f1 : Nat} {q0 q1 : Int} {xs : List Int} (h : HS W0 w B b s p v f1 q0 q1 xs) (z : Int) : HS W0 (w.setCell ⟨p, 1, none⟩ (.int .i64 z)) B b s p v f1 q0 z xs := by
  have bp := h.bp
  have sp := h.sp
  have lp := h.lp
  refine ⟨h.gb, h.gs, h.gp, h.gB, h.bel.setCell (h.gp) _, h.lb, h.ls, h.lp, h.bs, h.bp, h.sp, ?_, far h.c0 (by simp; omega), far h.c1 (by simp; omega), far h.c2 (by simp; omega), far h.c3 (by simp; omega), far h.s0 (by simp; omega), far h.s1 (by simp; omega), near h.p0 (by omega), same h.p1, frz h.fb, frz h.fs, frz h.f0, frz h.fp, own_far h.own lp⟩
  rw [World.size_setCell]; exact h.lB
theorem HS.setS {W0 w : World} {B b s p : Nat} {v : Value} {f1 : Nat} {q0 q1 : Int} {xs : List Int} (h : HS W0 w B b s p v f1 q0 q1 xs) (f : Nat) : HS W0 (w.setCell ⟨s, 1, none⟩ (.float .f64 f)) B b s p v f q0 q1 xs := by
  have bs := h.bs
  have sp := h.sp
  have ls := h.ls
  refine ⟨h.gb, h.gs, h.gp, h.gB, h.bel.setCell (h.gs) _, h.lb, h.ls, h.lp, h.bs, h.bp, h.sp, ?_, far h.c0 (by simp; omega), far h.c1 (by simp; omega), far h.c2 (by simp; omega), far h.c3 (by simp; omega), near h.s0 (by omega), same h.s1, far h.p0 (by simp; omega), far h.p1 (by simp; omega), frz h.fb, frz h.fs, frz h.f0, frz h.fp, own_far h.own ls⟩
  rw [World.size_setCell]; exact h.lB
end Go.Proofs.Ytccmppedofkckaa
