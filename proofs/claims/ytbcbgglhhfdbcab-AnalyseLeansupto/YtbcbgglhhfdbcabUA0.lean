/-
  units: what memory is asked of by all of this layer.
-/
import Derived.Test.YtbcbgglhhfdbcabCL0
import Derived.RegionTactic
import Derived.ChangeAlike
import Derived.BigRegion
import Derived.Laws.AppendOwnNone
import Derived.Deep.RegionHeld3
import Derived.RangeFuncRecord
import Derived.Lib.SliceRun
import Derived.Sort.Row
namespace Go.Proofs.Ytbcbgglhhfdbcab
open Go.RowKit
set_option linter.unusedVariables false
set_option linter.unusedSimpArgs false
/-- block b is cells, none of them frozen -/
def Row (w : World) (b : Nat) : Prop := ∃ cur t, w.heap[b]? = some (.cells cur t (0, 0))

theorem Row.frozen {w : World} {b : Nat} (h : Row w b) (o : Nat) : w.frozen? ⟨b, o, none⟩ = false := by
  obtain ⟨cur, t, h⟩ := h
  exact frozen_of_row w b o cur t h
theorem Row.lt {w : World} {b : Nat} (h : Row w b) : b < w.heap.size := by
  obtain ⟨cur, t, h⟩ := h
  exact (Array.getElem?_eq_some_iff.1 h).1
theorem Row.below {B : Nat} {w w' : World} {b : Nat} (h : Row w b) (hb : Below B w w') (hB : b < B) : Row w' b := by
  obtain ⟨cur, t, h⟩ := h
  exact ⟨cur, t, by rw [hb.block b hB]; exact h⟩
theorem Row.setCell {w : World} {b : Nat} (h : Row w b) (a : Addr) (u : Value) : Row (w.setCell a u) b := by
  obtain ⟨cur, t, h⟩ := h
  unfold Row World.setCell
  simp only [Array.getElem?_modify]
  by_cases e : a.block = b
  · subst e; simp only [if_true, h, Option.map_some]; exact ⟨_, _, rfl⟩
  · simp only [e, if_false]; exact ⟨cur, t, h⟩
theorem row_new (w : World) (cs : Array Value) (t : TypeId) : Row (w.alloc (.cells cs t)) w.heap.size := by
  refine ⟨cs, t, ?_⟩
  show (w.heap.push _)[w.heap.size]? = _
  rw [Array.getElem?_push, if_pos rfl]
theorem Row.alloc {w : World} {b : Nat} (h : Row w b) (o : Obj) : Row (w.alloc o) b := by
  have hl := h.lt
  obtain ⟨cur, t, h⟩ := h
  refine ⟨cur, t, ?_⟩
  show (w.heap.push _)[b]? = _
  rw [Array.getElem?_push, if_neg (by omega)]
  exact h
theorem size_alloc (w : World) (o : Obj) : (w.alloc o).heap.size = w.heap.size + 1 := by
  show (w.heap.push _).size = _
  rw [Array.size_push]
theorem take' {P : Program} {ops : Array Oper} {Q : Exit → Act → World → Prop} {md : Region.Mode} {S : World → Prop} (i : Nat) {d : Option Tmp} {op : Op} {ty : TypeId} {pos : String} {af : Array Edge} {g : Option (Nat × Bool)} {v : Value} {n : Nat} {L : Array Bool} {a : Act} {w : World}
    (hi : ops[i]? = some ⟨d, op, ty, pos, af, g⟩) (hs : Region.noSelect ops = true) (hf : Region.free md ops L i = true) (hr : (Region.ready md ops L).contains i = true)
    (hQ : ∀ c a w, Q (.panic c) (a.put d v) w → Q (.panic c) a w) (hy : YieldsIf P ops S ⟨d, op, ty, pos, af, g⟩ v a) (hS : S w) (h : wpAnyH P md ops Q S n (L.setIfInBounds i true) (a.put d v) w) : wpAnyH P md ops Q S (n + 1) L a w :=
  wpAnyH_take hi hs hf hr hQ hy hS h
theorem cons' {P : Program} {ops : Array Oper} {Q : Exit → Act → World → Prop} {md : Region.Mode} {S : World → Prop} {n : Nat} {L : Array Bool} {a : Act} {w : World} {i : Nat} {d : Option Tmp} {op : Op} {ty : TypeId} {pos : String} {af : Array Edge} {g : Option (Nat × Bool)}
    (ho : ops[i]? = some ⟨d, op, ty, pos, af, g⟩) (h : ∀ K' : Act → World → Prop, Shut (∀ a w, S w → (S w → wpAnyH P md ops Q S n (L.setIfInBounds i true) a w) → K' a w) → if Region.wanted ⟨d, op, ty, pos, af, g⟩ (yielded ops a.tmps) = true then Oper.wp P ⟨d, op, ty, pos, af, g⟩ a w K' Q else K' (a.put d undef) w) :
    AllReadyH P md ops Q S n L a w [i] := AllReadyH.cons ho h AllReadyH.nil
theorem consT {P : Program} {ops : Array Oper} {Q : Exit → Act → World → Prop} {md : Region.Mode} {S : World → Prop} {n : Nat} {L : Array Bool} {a : Act} {w : World} {i : Nat} {rs : List Nat} {d : Option Tmp} {op : Op} {ty : TypeId} {pos : String} {af : Array Edge} {g : Option (Nat × Bool)}
    (ho : ops[i]? = some ⟨d, op, ty, pos, af, g⟩) (h : ∀ K' : Act → World → Prop, Shut (∀ a w, S w → (S w → wpAnyH P md ops Q S n (L.setIfInBounds i true) a w) → K' a w) → if Region.wanted ⟨d, op, ty, pos, af, g⟩ (yielded ops a.tmps) = true then Oper.wp P ⟨d, op, ty, pos, af, g⟩ a w K' Q else K' (a.put d undef) w)
    (h2 : AllReadyH P md ops Q S n L a w rs) : AllReadyH P md ops Q S n L a w (i :: rs) := AllReadyH.cons ho h h2
theorem below_row {w w' : World} (h : Below w.heap.size w w') {b : Nat} (hr : Row w b) : Row w' b := hr.below h hr.lt
theorem bset {w w' : World} {c o : Nat} {u : Value} (h : Below w.heap.size w w') (hc : w.heap.size ≤ c) : Below w.heap.size w (w'.setCell ⟨c, o, none⟩ u) := h.setCell hc _
theorem own_below {w w' : World} {base : Nat} {e : TypeId} {size : Nat} {v : Value} {n : Nat} {xs : List Value} (h : w.ownsRow base e size v n xs) (hb : Below w.heap.size w w') : w'.ownsRow base e size v n xs := by
  refine ⟨h.1, ?_⟩
  rcases h.2 with h0 | ⟨g, cap, cur, hv, hg, hc, rest⟩
  · exact Or.inl h0
  · refine Or.inr ⟨g, cap, cur, hv, hg, ?_, rest⟩
    rw [hb.block g (Array.getElem?_eq_some_iff.1 hc).1]
    exact hc
theorem below_grown {base : Nat} {w w' : World} {row : Option Nat} (hb : base ≤ w.heap.size) (hrow : ∀ k, row = some k → base ≤ k) (hg : w.grownBy w' row) : Below base w w' :=
  ⟨hg.os, hg.tape, hg.output, hg.size, fun k hk => hg.block k (by omega) (fun e => by have := hrow k e.symm; omega)⟩
/-- literals in a row -/
def iv (zs : List Int) : List Value := zs.map (Value.int .i64)
theorem iv_length (zs : List Int) : (iv zs).length = zs.length := List.length_map _
theorem iv_append (zs ys : List Int) : iv (zs ++ ys) = iv zs ++ iv ys := List.map_append
theorem iv_at {zs : List Int} {i : Nat} {z : Int} (h : zs[i]? = some z) : (iv zs)[i]? = some (.int .i64 z) := by unfold iv; rw [List.getElem?_map, h]; rfl
theorem iv_set (zs : List Int) (i : Nat) (z : Int) : (iv zs).set i (.int .i64 z) = iv (zs.set i z) := by unfold iv; rw [List.map_set]
theorem iv_one (zs : List Int) : ∀ u ∈ iv zs, u.oneCell' = true := fun u hu => by
  obtain ⟨z, _, rfl⟩ := List.mem_map.1 hu
  simp [Value.oneCell']
/-- all are int64 -/
def okL (zs : List Int) : Prop := ∀ z ∈ zs, -9223372036854775808 ≤ z ∧ z ≤ 9223372036854775807
theorem own_lits {w : World} {base : Nat} {e : TypeId} {v : Value} {zs : List Int} (h : w.ownsRow base e 1 v zs.length (iv zs)) (ho : okL zs) : ∃ a cap, v = .slice a zs.length cap ∧ zs.length ≤ cap ∧ LitsAt w a zs.length (fun i => zs.getD i 0) := by
  have hb : ∀ i, i < zs.length → -9223372036854775808 ≤ zs.getD i 0 ∧ zs.getD i 0 ≤ 9223372036854775807 := fun i hi => by
    have e : zs.getD i 0 = zs[i] := by simp [List.getD, List.getElem?_eq_getElem hi]
    rw [e]
    exact ho _ (List.getElem_mem _)
  rcases h.2 with ⟨rfl, h0⟩ | ⟨g, cap, cur, rfl, hb', hg, hc, hm, _, _⟩
  · exact ⟨none, 0, by rw [h0], by omega, by omega, hb, fun hn => absurd hn (by omega)⟩
  · unfold maxLen at hm
    refine ⟨_, cap, rfl, hc, by omega, hb, fun hn => ⟨g, 0, rfl, fun i hi => ?_⟩⟩
    have k1 := h.cellAt i (by omega)
    rw [iv_at (z := zs.getD i 0) (by simp [List.getD, List.getElem?_eq_getElem hi])] at k1
    rw [Nat.zero_add]
    exact k1
theorem info_i : (Try.prog.info? 3).bind (fun i => i.zero.map fun z => (z, i.size, i.bytes)) = some (.int .i64 0, 1, 8) := by kernel_rfl
theorem results_ct {fn : Func} {p u : Tmp} {ty : TypeId} (h : fn.results = #[.cell p ty, .tmp u]) (tmps : Array Value) (P : Program) (w : World) :
    (results fn tmps).run P w = ((asAddr (tmps.getD p undef)).run P w).andThen fun a w1 => ((loadVar ty a).run P w1).andThen fun v w2 => .ok (.tuple #[v, tmps.getD u undef]) w2 := by
  simp only [results, h]
  simp [Sem.run_bind]
/-- a comparison with a great number: the walk's own way has no end there -/
theorem geq_law {P : Program} {ops : Array Oper} {rest : List Oper} {o : Oper} {a : Act} {Q : Exit → Act → World → Prop} (w : World)
    (hg : o.guard = none) (t t' : TypeId) (x y : Operand) (hop : o.op = Op.binOp .geq t x y t') (k : IntKind) (A B : Int) (b : Bool) (hx : a.eval x = .int k A) (hy : a.eval y = .int k B) (hb : decide (A ≥ B) = b)
    (hK : wpList P ops Q rest (a.put o.dst (.bool b)) w) : wpList P ops Q (o :: rest) a w := by
  refine wpList_plain hg fun K hK' => ?_
  unfold Oper.wp
  simp only [execOp, hop, hx, hy, eqGuard_geq, binOp_geq, hb]
  exact hK' _ _ hK
theorem own_sl {w : World} {base : Nat} {e : TypeId} {size : Nat} {v : Value} {n : Nat} {xs : List Value} (h : w.ownsRow base e size v n xs) : ∃ a cap, v = .slice a n cap := by
  rcases h.2 with ⟨hv, h0⟩ | ⟨g, cap, cur, hv, hg, hc, rest⟩
  · exact ⟨none, 0, by rw [hv, h0]⟩
  · exact ⟨_, cap, hv⟩
theorem own_set {w : World} {base : Nat} {e : TypeId} {size : Nat} {v : Value} {n : Nat} {xs : List Value} {c o : Nat} {u : Value} (h : w.ownsRow base e size v n xs) (hne : v.ownBlock ≠ some c) : (w.setCell ⟨c, o, none⟩ u).ownsRow base e size v n xs := by
  refine ⟨h.1, ?_⟩
  rcases h.2 with h0 | ⟨g, cap, cur, hv, hg, hc, rest⟩
  · exact Or.inl h0
  · refine Or.inr ⟨g, cap, cur, hv, hg, ?_, rest⟩
    rw [heap_setCell_other w ⟨c, o, none⟩ g u (fun e => hne (by rw [hv, e]; rfl))]
    exact hc
theorem row_grown {w w' : World} {b : Nat} {row : Option Nat} (h : Row w b) (hg : w.grownBy w' row) (hne : some b ≠ row) : Row w' b := by
  have hl := h.lt
  obtain ⟨cur, t, h⟩ := h
  exact ⟨cur, t, by rw [hg.block b hl hne]; exact h⟩
theorem info_parts {P : Program} {e : TypeId} {z : Value} {s b : Nat} (h : (P.info? e).bind (fun i => i.zero.map fun z => (z, i.size, i.bytes)) = some (z, s, b)) : ∃ i, P.info? e = some i ∧ i.zero = some z ∧ i.size = s ∧ i.bytes = b := by
  cases hi : P.info? e with
  | none => rw [hi] at h; cases h
  | some i =>
    rw [hi] at h
    cases hz : i.zero with
    | none => simp [hz] at h
    | some z' =>
      simp [hz] at h
      exact ⟨i, rfl, by rw [hz, h.1], h.2.1, h.2.2⟩
theorem below_drewN {B n : Nat} {w w' : World} (h : Below B w w') : Below B w (w'.drewN n) := ⟨h.os, h.tape, h.output, h.size, h.block⟩
theorem nil_sl (w : World) (a : Option Addr) (n c : Nat) : (binOp .eql 26 (.slice a n c) (.slice none 0 0)).run Try.prog w = .ok (.bool a.isNone) w :=
  Lib.run_eql_slice_nil w 26 3 a n c 0 0 Try.underlying26
end Go.Proofs.Ytbcbgglhhfdbcab
