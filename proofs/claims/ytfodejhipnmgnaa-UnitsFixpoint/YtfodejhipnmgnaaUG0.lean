/-
  units: copies: a clause's literals, marks.
-/
import Derived.Test.YtfodejhipnmgnaaUF4
import Derived.Laws.CopyRow
namespace Go.Proofs.Ytfodejhipnmgnaa
open Go.RowKit
set_option linter.unusedVariables false
set_option linter.unusedSimpArgs false
def ofF (n : Nat) (f : Nat → Int) : List Int := (List.range n).map f
theorem ofF_length (n : Nat) (f : Nat → Int) : (ofF n f).length = n := by simp [ofF]
theorem ofF_at {n : Nat} {f : Nat → Int} {i : Nat} (h : i < n) : (ofF n f)[i]? = some (f i) := by simp [ofF, h]
/-- copy of a whole slice of elements of k cells into a block that is as long -/
theorem run_copy_all {P : Program} (w : World) (dT sT ty elem : TypeId) (k g n dc : Nat) (a : Addr) (sc : Nat) (cur : Array Value) (t : TypeId) (cs : List Value)
    (hu : P.underlying dT = some (.slice elem)) (hs : (P.info? elem).map (·.size) = some k)
    (hg : w.heap[g]? = some (.cells cur t (0, 0))) (hcur : cur.size = cs.length) (hn : cs.length = n * k)
    (hsrc : ∀ j v, cs[j]? = some v → w.cell? (a.add j) = some v) (h1 : ∀ v ∈ cs, v.oneCell' = true) :
    (Builtin.copy_ #[dT, sT] ty #[.slice (some ⟨g, 0, none⟩) n dc, .slice (some a) n sc]).run P w = .ok (goInt n) (w.setRow g cs.toArray) := by
  have hl := run_loadCells_list (P := P) w a cs hsrc
  have hst := run_storeCells_at P g 0 t cs 0 cur w hg (by omega) h1
  have hd : cur.toList.drop (0 + 0 + cs.length) = [] := List.drop_eq_nil_of_le (by rw [Array.length_toList]; omega)
  rw [hd] at hst
  simp only [Nat.add_zero, List.take_zero, List.nil_append, List.append_nil] at hst
  cases hq : P.info? elem with
  | none => simp [hq] at hs
  | some i =>
    have hi : i.size = k := by simpa [hq] using hs
    have hm : Nat.min n n = n := Nat.min_self n
    rw [hn] at hl
    simp [Builtin.copy_, run_underlying hu, Builtin.lenOf, Builtin.firstCells, sizeOf, typeInfo, hq, hi, hm, hl, hst]
theorem run_copy_zero {P : Program} (w : World) (dT sT ty elem : TypeId) (i : TypeInfo) (g dc : Nat) (a : Option Addr) (sc : Nat) (hu : P.underlying dT = some (.slice elem)) (hq : P.info? elem = some i) :
    (Builtin.copy_ #[dT, sT] ty #[.slice (some ⟨g, 0, none⟩) 0 dc, .slice a 0 sc]).run P w = .ok (goInt 0) w := by
  have hl : ∀ (x : Addr), (loadCells x 0).run P w = .ok #[] w := fun x => by simpa using run_loadCells_list (P := P) w x [] (by simp)
  have hm : Nat.min 0 0 = 0 := rfl
  cases a <;> simp [Builtin.copy_, run_underlying hu, Builtin.lenOf, Builtin.firstCells, sizeOf, typeInfo, hq, hm, storeCells, hl]
theorem run_copy_any {P : Program} (w : World) (dT sT ty elem : TypeId) (i : TypeInfo) (k g n dc : Nat) (a : Option Addr) (sc : Nat) (cur : Array Value) (t : TypeId) (cs : List Value)
    (hu : P.underlying dT = some (.slice elem)) (hq : P.info? elem = some i) (hk : i.size = k)
    (hg : w.heap[g]? = some (.cells cur t (0, 0))) (hcur : cur.size = n * k) (hn : cs.length = n * k)
    (hsrc : 0 < n → ∃ ad, a = some ad ∧ ∀ j v, cs[j]? = some v → w.cell? (ad.add j) = some v) (h1 : ∀ v ∈ cs, v.oneCell' = true) :
    ∃ w2, (Builtin.copy_ #[dT, sT] ty #[.slice (some ⟨g, 0, none⟩) n dc, .slice a n sc]).run P w = .ok (goInt n) w2 ∧ w2.heap[g]? = some (.cells cs.toArray t (0, 0)) ∧ Below g w w2 := by
  by_cases hz : n = 0
  · subst hz
    have e1 : cs = [] := List.eq_nil_of_length_eq_zero (by omega)
    have e2 : cur = #[] := Array.eq_empty_of_size_eq_zero (by omega)
    subst e1 e2
    exact ⟨w, run_copy_zero w dT sT ty elem i g dc a sc hu hq, hg, Below.refl _ _⟩
  · obtain ⟨ad, rfl, hs⟩ := hsrc (by omega)
    exact ⟨_, run_copy_all w dT sT ty elem k g n dc ad sc cur t cs hu (by rw [hq]; simp [hk]) hg (by omega) hn hs h1, setRow_heap w g cur _ t _ hg, below_setRow (Below.refl _ _) (Nat.le_refl _) _⟩
theorem wpList_copy_eq {P : Program} (w : World) {ops : Array Oper} {rest : List Oper} {o : Oper} {a : Act} {Q : Exit → Act → World → Prop} (hgd : o.guard = none) (d s : Operand) (t t' : TypeId)
    (ho : o.op = .call { callee := .builtin .copy, args := #[d, s], argTypes := #[t, t'] }) (v u : Value) (hd : a.eval d = v) (hs : a.eval s = u) {v' : Value} {w' : World}
    (hr : (Builtin.copy_ #[t, t'] o.type #[v, u]).run P w = .ok v' w') (h : wpList P ops Q rest (a.put o.dst v') w') : wpList P ops Q (o :: rest) a w := by
  refine wpList_plain hgd fun _ hK => ?_
  unfold Oper.wp execOp
  simp only [ho, resolve, invoke, builtin, Sem.run_bind, Sem.run_pure, Result.andThen_ok, List.map_toArray, List.map_cons, List.map_nil, hd, hs, hr]
  exact hK _ _ h
set_option maxHeartbeats 4000000 in
set_option maxRecDepth 100000 in
theorem copied_is (a : Option Addr) (n c : Nat) (f : Nat → Int) (hn : n ≤ 17592186044416) (w : World) (h : LitsAt w a n f) :
    Calls Try.prog 48 #[.slice a n c] w fun e w' => ∃ g, e = .returned (.slice (some ⟨g, 0, none⟩) n n) ∧ w'.heap[g]? = some (.cells (iv (ofF n f)).toArray 3 (0, 0)) ∧ w.heap.size ≤ g ∧ Below w.heap.size w w' := by
  obtain ⟨Xa, hXa, hma⟩ : ∃ X : Array Value, X.size = (n) * 1 ∧ ∀ w : World, (Instr.makeSlice 41 (.int .i64 ((n : Int))) (.int .i64 ((n : Int)))).run Try.prog w = .ok (.slice (some ⟨w.heap.size, 0, none⟩) (n) (n)) (w.alloc (.cells X 3)) := by
    obtain ⟨i0, hi0, hz0, hz1, hz2⟩ := info_parts info_i
    refine ⟨madeCells (.int .i64 0 : Value).cells ((n) * 1), size_madeCells _ _, fun w => ?_⟩
    have hr := run_make (P := Try.prog) w 41 3 i0 _ Try.underlying41 hi0 hz0 .i64 .i64 ((n : Int)) ((n : Int)) (by omega) (Int.le_refl _) (by rw [hz2]; omega) (by omega)
    have e : ((n : Int) : Int).toNat = n := by omega
    rw [hz1, e] at hr
    exact hr
  obtain ⟨ii, hii, hiz, his, hib⟩ := info_parts info_i
  obtain ⟨w1, hw1⟩ : ∃ w1, w.alloc (.cells Xa 3) = w1 := ⟨_, rfl⟩
  have hnew : w1.heap[w.heap.size]? = some (.cells Xa 3 (0, 0)) := by rw [← hw1]; exact heap_alloc_new w _
  have bN : Below w.heap.size w w1 := by rw [← hw1]; exact below_alloc _
  obtain ⟨g, hg⟩ : ∃ g, w.heap.size = g := ⟨_, rfl⟩
  rw [hg] at hnew
  have hma2 := hma w
  rw [hw1, hg] at hma2
  have hcell : ∀ i, i < n → (iv (ofF n f))[i]? = some (.int .i64 (f i)) := fun i hi => iv_at (ofF_at hi)
  obtain ⟨w2, hr, hc2, b2⟩ := run_copy_any (P := Try.prog) w1 41 41 3 3 ii 1 g n n a c Xa 3 (iv (ofF n f)) Try.underlying41 hii his hnew (by omega) (by rw [iv_length, ofF_length]; omega) (fun h0 => by
        obtain ⟨bb, off, e, hc⟩ := h.2.2 h0
        refine ⟨⟨bb, off, none⟩, e, fun j v hv => ?_⟩
        have hj : j < n := by have := (List.getElem?_eq_some_iff.1 hv).1; rwa [iv_length, ofF_length] at this
        rw [hcell j hj] at hv
        obtain rfl := Option.some.inj hv
        have hadd : (⟨bb, off, none⟩ : Addr).add j = ⟨bb, off + j, none⟩ := by unfold Addr.add; split <;> simp_all
        rw [hadd]
        exact below_cell bN (hc j hj)) (by simp [iv, Value.oneCell'])
  have HX := hide' (show w2.heap[g]? = some (.cells (iv (ofF n f)).toArray 3 (0, 0)) ∧ w.heap.size ≤ g ∧ Below w.heap.size w w2 from ⟨hc2, by omega, bN.trans (by rw [hg]; exact b2)⟩)
  clear hma bN b2 hc2 hnew hcell h hw1 hg hiz hib his hii
  go_enter Try.func48, Try.ntmps48
  go_wp2_with (at_builtin; refine wpList_copy_eq _ rfl _ _ 41 41 rfl (.slice (some ⟨g, 0, none⟩) n n) (.slice a n c) (by rfl) (by rfl) hr ?_)
  first | exact ⟨g, rfl, HX.out⟩ | (go_ret; exact ⟨g, rfl, HX.out⟩)
end Go.Proofs.Ytfodejhipnmgnaa
