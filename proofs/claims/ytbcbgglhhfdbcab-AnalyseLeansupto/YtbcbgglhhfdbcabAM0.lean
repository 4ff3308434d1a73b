/-
  (as GT0, over the texts of layer 21) A map from ints to values that a call has made: what it has at an int, as a function; look-ups, stores, deletes, ranges (the library's laws at elements that are read as themselves).
-/
import Derived.Test.YtbcbgglhhfdbcabAN4
import Derived.Maps.OwnSet
import Derived.Maps.RangeWalk
namespace Go.Proofs.Ytbcbgglhhfdbcab
open Go.RowKit Go.Maps Go.ChangeMaps Go.MapKept
set_option linter.unusedVariables false
set_option linter.unusedSimpArgs false

/-- an element is read as itself -/
def RV (v : Value) : Option (DataW Value × List MemPlace) := some (.held v, [])
def wfI (v : Int) : Prop := (Lit.int .i64 v).wf = true
theorem wfI_of {v : Int} (h1 : -9223372036854775808 ≤ v) (h2 : v ≤ 9223372036854775807) : wfI v := by
  unfold wfI
  have h3 : IntKind.i64.min = -9223372036854775808 := by decide
  simp [Lit.wf, IntKind.wrap, h3]
  omega
/-- the datum has what f has -/
structure MIs (D : DataW Value) (f : Int → Option Value) : Prop where
  isMap : IsMap D
  has : ∀ v, wfI v → Maps.has D (.int .i64 v) = (f v).isSome
  val : ∀ v x, f v = some x → ∀ z, D.atKey (.int .i64 v) z = .held x
  wf : ∀ v x, f v = some x → wfI v
/-- the function with one place set, and with one place empty -/
def fput (f : Int → Option Value) (v : Int) (x : Value) : Int → Option Value := fun u => if u = v then some x else f u
def fdel (f : Int → Option Value) (v : Int) : Int → Option Value := fun u => if u = v then none else f u

variable {P : Program} {kt : TypeId}
/-- block b is a map of at most n entries that has what f has -/
def MapI (P : Program) (kt : TypeId) (w : World) (b n : Nat) (f : Int → Option Value) : Prop := ∃ D : DataW Value, w.ownsMap P kt RV b n D ∧ MIs D f

theorem key_of (hk : P.underlying kt = some (.int .i64)) {v : Int} (hv : wfI v) : keyOf P kt (.int .i64 v) = some (.int .i64 v) := keyOf_int_mk hk hv
theorem lit_ne {u v : Int} (h : u ≠ v) : (Lit.int .i64 u) ≠ .int .i64 v := fun e => h (by injection e)
theorem isKey (hk : P.underlying kt = some (.int .i64)) {v : Int} (hv : wfI v) : WideAt.IsKeyLit (Lit.int .i64 v) := (int_keyed hk).key (key_of hk hv)

theorem MapI.made (w : World) (P : Program) (kt : TypeId) : MapI P kt (w.alloc (.map #[] 0)) w.heap.size 0 (fun _ => none) :=
  ⟨.map [], World.ownsMap_made w P kt RV, ⟨[], rfl⟩, fun _ _ => rfl, fun _ _ h => (by cases h), fun _ _ h => (by cases h)⟩
theorem MapI.lt {w : World} {b n : Nat} {f : Int → Option Value} (h : MapI P kt w b n f) : b < w.heap.size := by
  obtain ⟨D, h1, _⟩ := h
  exact h1.lt
theorem MapI.mono {w : World} {b n m : Nat} {f : Int → Option Value} (h : MapI P kt w b n f) (hn : n ≤ m) : MapI P kt w b m f := by
  obtain ⟨D, h1, h2⟩ := h
  exact ⟨D, h1.mono hn, h2⟩
theorem MapI.block {w w' : World} {b n : Nat} {f : Int → Option Value} (h : MapI P kt w b n f) (hb : w'.heap[b]? = w.heap[b]?) : MapI P kt w' b n f := by
  obtain ⟨D, ⟨es, clock, h1, h2⟩, h3⟩ := h
  exact ⟨D, ⟨es, clock, hb.trans h1, h2⟩, h3⟩
theorem MapI.later {w w' : World} {b n : Nat} {f : Int → Option Value} (h : MapI P kt w b n f) (hb : Below w.heap.size w w') : MapI P kt w' b n f := h.block (hb.block b h.lt)
theorem MapI.nocells {w : World} {b n : Nat} {f : Int → Option Value} (h : MapI P kt w b n f) {cs : Array Value} {t : TypeId} {fr : Nat × Nat} : w.heap[b]? ≠ some (.cells cs t fr) := by
  obtain ⟨D, ⟨es, clock, h1, h2⟩, h3⟩ := h
  rw [h1]
  intro e
  cases e
theorem MapI.key {w : World} {b n : Nat} {f : Int → Option Value} (h : MapI P kt w b n f) {v : Int} {x : Value} (hv : f v = some x) : wfI v := by
  obtain ⟨D, h1, h2⟩ := h
  exact h2.wf v x hv

/-- a map's block was written; all other blocks are as they were -/
structure Mvd (b : Nat) (w w' : World) : Prop where
  os : w'.os = w.os
  tape : w'.tape = w.tape
  output : w'.output = w.output
  size : w'.heap.size = w.heap.size
  block : ∀ i, i ≠ b → w'.heap[i]? = w.heap[i]?
  map : ∀ cs t fr, w.heap[b]? ≠ some (.cells cs t fr)
theorem Mvd.below {b B : Nat} {w w' : World} (h : Mvd b w w') (hB : B ≤ b) : Below B w w' := ⟨h.os, h.tape, h.output, Nat.le_of_eq h.size.symm, fun k hk => h.block k (by omega)⟩
theorem Mvd.cell {b : Nat} {w w' : World} (h : Mvd b w w') {a : Addr} {u : Value} (hc : w.cell? a = some u) : w'.cell? a = some u := by
  have : w'.cell? a = w.cell? a := by
    by_cases hb : a.block = b
    · exfalso
      unfold World.cell? at hc
      cases hg : w.heap[a.block]? with
      | none => simp [hg] at hc
      | some o =>
        cases o with
        | cells cs t fr => exact h.map cs t fr (by rw [← hb, hg])
        | _ => simp [hg] at hc
    · exact World.cell?_of_block (w := w) (h.block _ hb)
  rw [this]
  exact hc
theorem mvd_of {b n : Nat} {f : Int → Option Value} {w w' : World} (h : MapI P kt w b n f) (ht : w.mapTurned w' b) : Mvd b w w' := by
  obtain ⟨es, clock, es', clock', hb, rfl⟩ := ht
  exact ⟨rfl, rfl, rfl, by simp [setBlock], fun i hi => heap_setBlock_other hb _ hi, fun cs t fr e => h.nocells e⟩

section
variable {e : TypeId} (w : World) {ops : Array Oper} {rest : List Oper} {o : Oper} {a : Act} {Q : Exit → Act → World → Prop}

theorem look_run {b n : Nat} {f : Int → Option Value} (h : MapI P kt w b n f) (hk : P.underlying kt = some (.int .i64)) {t : TypeId} (ht : P.underlying t = some (.map kt e)) {z : Value} (hz : (zeroValue e).run P w = .ok z w) (c : Bool) {v : Int} (hv : wfI v) :
    (Instr.lookup t (.map (some b)) (.int .i64 v) c).run P w = .ok (if c then .tuple #[(f v).getD z, .bool (f v).isSome] else (f v).getD z) w := by
  obtain ⟨D, ⟨es, clock, hb, F, _, hD⟩, hM⟩ := h
  have hh := hM.has v hv
  rcases Maps.fit_look c (int_keyed hk) ht hz hb F (key_of hk hv) with ⟨hrun, _, hat⟩ | ⟨e0, y, _, _, hrun, hRv, hat, _⟩
  · rw [← hD] at hat
    have h0 := Maps.has_false_of_atKey hat
    rw [h0] at hh
    cases hf : f v with
    | none => rw [hrun]; simp
    | some x => rw [hf] at hh; cases hh
  · rw [← hD] at hat
    have h0 := Maps.has_true_of_atKey hat
    rw [h0] at hh
    cases hf : f v with
    | none => rw [hf] at hh; cases hh
    | some x =>
      have h1 := hat .nil
      rw [hM.val v x hf .nil] at h1
      have h2 : y.1 = .held e0.val := by
        simp only [RV, Option.some.injEq] at hRv
        rw [← hRv]
      rw [h2] at h1
      injection h1 with h1
      rw [hrun, h1]
      simp
theorem wpList_look (hg : o.guard = none) (m x : Operand) (t : TypeId) (c : Bool) (hop : o.op = Op.lookup t m x c) (hk : P.underlying kt = some (.int .i64)) (ht : P.underlying t = some (.map kt e)) {z : Value} (hz : (zeroValue e).run P w = .ok z w) (b n : Nat) (f : Int → Option Value)
    (hm : a.eval m = .map (some b)) (h : MapI P kt w b n f) (v : Int) (hx : a.eval x = .int .i64 v) (hv : wfI v) (r : Option Value) (hr : f v = r)
    (hK : wpList P ops Q rest (a.put o.dst (if c then .tuple #[r.getD z, .bool r.isSome] else r.getD z)) w) : wpList P ops Q (o :: rest) a w := by
  refine wpList_plain hg fun K' hK' => ?_
  have hrun := look_run w h hk ht hz c hv
  rw [hr] at hrun
  unfold Oper.wp
  simp only [execOp, hop, hm, hx]
  simp [hrun, Result.andThen]
  exact hK' _ _ hK
theorem store_run {b n : Nat} {f : Int → Option Value} (h : MapI P kt w b n f) (hk : P.underlying kt = some (.int .i64)) {t : TypeId} (ht : P.underlying t = some (.map kt e)) (hn : n < maxLen) {v : Int} (hv : wfI v) (x : Value) :
    ∃ w', (Instr.mapUpdate t (.map (some b)) (.int .i64 v) x).run P w = .ok () w' ∧ MapI P kt w' b (n + 1) (fput f v x) ∧ Mvd b w w' := by
  obtain ⟨D, hO, hM⟩ := id h
  obtain ⟨w', hrun, hO', hT⟩ := hO.store (int_keyed hk) ht hn (key_of hk hv) (d := .held x) (ps := []) (val := x) rfl
  refine ⟨w', hrun, ⟨_, hO', hM.isMap.put _ _, fun u hu => ?_, fun u y hu zz => ?_, fun u y hu => ?_⟩, mvd_of h hT⟩
  · unfold fput
    by_cases e1 : u = v
    · subst e1
      rw [Maps.has_put_same hM.isMap (isKey hk hv), if_pos rfl]
      rfl
    · rw [Maps.has_put_other (lit_ne e1), if_neg e1, hM.has u hu]
  · unfold fput at hu
    by_cases e1 : u = v
    · subst e1
      rw [if_pos rfl] at hu
      injection hu with hu
      rw [Maps.atKey_put_same hM.isMap (isKey hk hv), hu]
    · rw [if_neg e1] at hu
      rw [Maps.atKey_put_other (lit_ne e1), hM.val u y hu]
  · unfold fput at hu
    by_cases e1 : u = v
    · subst e1; exact hv
    · rw [if_neg e1] at hu; exact hM.wf u y hu
theorem wpList_put (hg : o.guard = none) (m x y : Operand) (t : TypeId) (hop : o.op = Op.mapUpdate t m x y) (hk : P.underlying kt = some (.int .i64)) (ht : P.underlying t = some (.map kt e)) (b n : Nat) (f : Int → Option Value)
    (hm : a.eval m = .map (some b)) (h : MapI P kt w b n f) (hn : n < maxLen) (v : Int) (hx : a.eval x = .int .i64 v) (hv : wfI v) (s : Value) (hy : a.eval y = s)
    (hK : ∀ w', MapI P kt w' b (n + 1) (fput f v s) → Mvd b w w' → wpList P ops Q rest (a.put o.dst undef) w') : wpList P ops Q (o :: rest) a w := by
  refine wpList_plain hg fun K' hK' => ?_
  obtain ⟨w', hrun, r1, r2⟩ := store_run w h hk ht hn hv s
  unfold Oper.wp
  simp [execOp, hop, hm, hx, hy, hrun, Result.andThen]
  exact hK' _ _ (hK w' r1 r2)
theorem wpList_del (hg : o.guard = none) (m x : Operand) (t : TypeId) (hop : o.op = Op.call { callee := Callee.builtin Builtin.delete, args := #[m, x], argTypes := #[t, kt] }) (hk : P.underlying kt = some (.int .i64)) (ht : P.underlying t = some (.map kt e)) (b n : Nat) (f : Int → Option Value)
    (hm : a.eval m = .map (some b)) (h : MapI P kt w b n f) (v : Int) (hx : a.eval x = .int .i64 v) (hv : wfI v)
    (hK : ∀ w', MapI P kt w' b n (fdel f v) → Mvd b w w' → wpList P ops Q rest (a.put o.dst (.tuple #[])) w') : wpList P ops Q (o :: rest) a w := by
  obtain ⟨D, hO, hM⟩ := id h
  refine wpList_delete_own w hg m x t kt hop e (int_keyed hk) ht RV b n D hm hO _ _ hx (key_of hk hv) fun w1 h1 ht1 => hK w1 ⟨_, h1, hM.isMap.del _, fun u hu => ?_, fun u y hu zz => ?_, fun u y hu => ?_⟩ (mvd_of h ht1)
  · unfold fdel
    by_cases e1 : u = v
    · subst e1
      rw [Maps.has_del_same, if_pos rfl]
      rfl
    · rw [Maps.has_del_other (lit_ne e1), if_neg e1, hM.has u hu]
  · unfold fdel at hu
    by_cases e1 : u = v
    · rw [if_pos e1] at hu; cases hu
    · rw [if_neg e1] at hu
      rw [Maps.atKey_del_other (lit_ne e1), hM.val u y hu]
  · unfold fdel at hu
    by_cases e1 : u = v
    · rw [if_pos e1] at hu; cases hu
    · rw [if_neg e1] at hu; exact hM.wf u y hu

/-- a range over it under way: what is still to come -/
def RngI (P : Program) (kt : TypeId) (w : World) (b r n : Nat) (f : Int → Option Value) (left : Int → Bool) (cnt : Nat) : Prop :=
  ∃ (D : DataW Value) (lf : Lit → Bool), w.ranges P kt RV b r n D lf cnt ∧ MIs D f ∧ ∀ v, wfI v → lf (.int .i64 v) = left v
theorem RngI.map {b r n : Nat} {f : Int → Option Value} {left : Int → Bool} {cnt : Nat} (h : RngI P kt w b r n f left cnt) : MapI P kt w b n f := by
  obtain ⟨D, lf, h1, h2, _⟩ := h
  exact ⟨D, h1.owns, h2⟩
theorem RngI.lt {b r n : Nat} {f : Int → Option Value} {left : Int → Bool} {cnt : Nat} (h : RngI P kt w b r n f left cnt) : r < w.heap.size := by
  obtain ⟨D, lf, h1, h2, _⟩ := h
  exact h1.lt
theorem RngI.block {w' : World} {b r n : Nat} {f : Int → Option Value} {left : Int → Bool} {cnt : Nat} (h : RngI P kt w b r n f left cnt) (hb : w'.heap[b]? = w.heap[b]?) (hr : w'.heap[r]? = w.heap[r]?) : RngI P kt w' b r n f left cnt := by
  obtain ⟨D, lf, ⟨es, clock, since, seen, c0, h1, h2, h3, h4, h5, h6⟩, h7⟩ := h
  exact ⟨D, lf, ⟨es, clock, since, seen, c0, hb.trans h1, h2, h3, h4, hr.trans h5, h6⟩, h7⟩
theorem RngI.later {w' : World} {b r n : Nat} {f : Int → Option Value} {left : Int → Bool} {cnt : Nat} (h : RngI P kt w b r n f left cnt) (hb : Below w.heap.size w w') : RngI P kt w' b r n f left cnt := h.block w (hb.block b (h.map w).lt) (hb.block r (h.lt w))
theorem wpList_rng (hg : o.guard = none) (m : Operand) (t : TypeId) (hop : o.op = Op.range t m) (hk : P.underlying kt = some (.int .i64)) (ht : P.underlying t = some (.map kt e)) (b n : Nat) (f : Int → Option Value)
    (hm : a.eval m = .map (some b)) (h : MapI P kt w b n f)
    (hK : ∀ w' cnt, RngI P kt w' b w.heap.size n f (fun v => (f v).isSome) cnt → cnt ≤ n → Below w.heap.size w w' → w'.heap.size = w.heap.size + 1 → wpList P ops Q rest (a.put o.dst (.pointer (some ⟨w.heap.size, 0, none⟩))) w') : wpList P ops Q (o :: rest) a w := by
  obtain ⟨D, hO, hM⟩ := id h
  refine wpList_range_own w hg m t hop kt e (int_keyed hk) ht RV b n D hm hO fun w1 h1 hg1 hs1 => hK w1 _ ⟨D, _, h1, hM, hM.has⟩ hO.size_le ⟨hg1.os, hg1.tape, hg1.output, by omega, fun i hi => hg1.block i hi (by simp)⟩ hs1
/-- the step -/
theorem wpList_nxt (hg : o.guard = none) (it : Operand) (hop : o.op = Op.next it false) (hk : P.underlying kt = some (.int .i64)) (b r n : Nat) (f : Int → Option Value) (left : Int → Bool) (cnt : Nat)
    (hit : a.eval it = .pointer (some ⟨r, 0, none⟩)) (h : RngI P kt w b r n f left cnt)
    (hDone : (∀ v x, f v = some x → left v = false) → wpList P ops Q rest (a.put o.dst (.tuple #[.bool false])) w)
    (hMore : ∀ (v : Int) (x : Value) (w' : World) (cnt' : Nat), f v = some x → left v = true → RngI P kt w' b r n f (fun z => left z && !decide (z = v)) cnt' → cnt' < cnt → w.grownBy w' (some r) → w'.heap.size = w.heap.size →
      (Instr.entry (.pointer (some ⟨r, 0, none⟩))).run P w' = .ok (.tuple #[.int .i64 v, x]) w' → wpList P ops Q rest (a.put o.dst (.tuple #[.bool true, .int .i64 v, x])) w') : wpList P ops Q (o :: rest) a w := by
  obtain ⟨D, lf, hR, hM, hL⟩ := id h
  refine wpList_next_ranges w hg it hop kt (int_keyed hk) RV (fun v : Int => Value.int .i64 v) (fun x : Value => x) (fun key kl hkey => ?_) (fun v y _ => ⟨v, rfl⟩) b r n D lf cnt hit hR (fun h0 hl => hDone fun v x hx => ?_) fun v x kl y w' cnt' hkey hlk hRv hat hR' hlt hgr hsz hen => ?_
  · obtain ⟨x, rfl, _⟩ := Maps.keyOf_int_inv hk hkey
    exact ⟨x, rfl⟩
  · rw [← hL v (hM.wf v x hx)]
    exact hl _
  · obtain ⟨v', e1, rfl, hw'⟩ := Maps.keyOf_int_inv hk hkey
    obtain rfl : v = v' := by injection e1
    have hy : y.1 = .held x := by
      simp only [RV, Option.some.injEq] at hRv
      rw [← hRv]
    have hh := Maps.has_true_of_atKey hat
    rw [hM.has v hw'] at hh
    have hfx : f v = some x := by
      cases hf : f v with
      | none => rw [hf] at hh; cases hh
      | some x' =>
        have h1 := hat .nil
        rw [hM.val v x' hf .nil, hy] at h1
        injection h1 with h1
        rw [h1]
    refine hMore v x w' cnt' hfx (by rw [← hL v hw']; exact hlk) ⟨D, _, hR', hM, fun u hu => ?_⟩ hlt hgr hsz hen
    rw [hL u hu]
    by_cases e2 : u = v
    · subst e2
      rw [WideAt.sameKey_self (isKey hk hu)]
      simp
    · rw [Maps.sameKey_ne (lit_ne e2)]
      simp [e2]
end
end Go.Proofs.Ytbcbgglhhfdbcab
