/-
  the law's ints, marks, twin: copies in new memory.
-/
import Derived.Test.YtbcbgglhhfdbcabANA
namespace Go.Proofs.Ytbcbgglhhfdbcab
open Go.RowKit
set_option linter.unusedVariables false
set_option linter.unusedSimpArgs false
/-- a row whose first k cells are told -/
def Fil (w : World) (g : Nat) (e : TypeId) (xs : List Value) (k : Nat) : Prop := ∃ cur : Array Value, w.heap[g]? = some (.cells cur e (0, 0)) ∧ cur.size = xs.length ∧ cur.toList.take k = xs.take k
theorem Fil.row {w : World} {g : Nat} {e : TypeId} {xs : List Value} {k : Nat} (h : Fil w g e xs k) : Row w g := by obtain ⟨cur, h, _⟩ := h; exact ⟨cur, e, h⟩
theorem Fil.set {w : World} {g : Nat} {e : TypeId} {xs : List Value} {k : Nat} (h : Fil w g e xs k) {v : Value} (hv : xs[k]? = some v) : Fil (w.setCell ⟨g, k, none⟩ v) g e xs (k + 1) := by
  obtain ⟨cur, h1, h2, h3⟩ := h
  have hk : k < xs.length := (List.getElem?_eq_some_iff.1 hv).1
  refine ⟨cur.setIfInBounds k v, by simp [World.setCell, Array.getElem?_modify, h1], by simpa using h2, ?_⟩
  rw [Array.toList_setIfInBounds, List.take_add_one, List.take_add_one, hv, List.take_set_of_le (Nat.le_refl _), h3, List.getElem?_set_self (by simpa [h2] using hk)]
theorem Fil.done {w : World} {g : Nat} {e : TypeId} {xs : List Value} {k : Nat} (h : Fil w g e xs k) (hk : k = xs.length) : w.heap[g]? = some (.cells xs.toArray e (0, 0)) := by
  obtain ⟨cur, h1, h2, h3⟩ := h
  rw [h1]
  have : cur.toList = xs := by rw [hk, List.take_of_length_le (by simp [h2]), List.take_of_length_le (Nat.le_refl _)] at h3; exact h3
  rw [← this]
theorem Fil.cell {w : World} {g : Nat} {e : TypeId} {xs : List Value} {k : Nat} (h : Fil w g e xs k) {i : Nat} (hi : i < xs.length) : ∃ v, w.cell? ⟨g, i, none⟩ = some v := by
  obtain ⟨cur, h1, h2, h3⟩ := h
  exact ⟨cur[i]'(by omega), by rw [cell_of_row w g i _ _ _ h1]; exact Array.getElem?_eq_getElem _⟩
theorem Fil.later {w w' : World} {g : Nat} {e : TypeId} {xs : List Value} {k : Nat} (h : Fil w g e xs k) (hb : w'.heap[g]? = w.heap[g]?) : Fil w' g e xs k := by
  obtain ⟨cur, h1, h2⟩ := h
  exact ⟨cur, hb.trans h1, h2⟩
theorem fil_new (w : World) (e : TypeId) (xs : List Value) (z : Array Value) (h : (madeCells z xs.length).size = xs.length) : Fil (w.alloc (.cells (madeCells z xs.length) e)) w.heap.size e xs 0 :=
  ⟨madeCells z xs.length, heap_alloc_new w _, h, rfl⟩
theorem madeCells_size (z : Array Value) (n : Nat) : (madeCells z n).size = n := by simp [madeCells]
theorem below_set {w w' : World} {g k : Nat} {v : Value} {B : Nat} (h : Below B w w') (hg : B ≤ g) : Below B w (w'.setCell ⟨g, k, none⟩ v) :=
  ⟨h.os, h.tape, h.output, by rw [World.size_setCell]; exact h.size, fun x hx => (heap_setCell_other _ _ _ _ (fun e => by have e9 : x = g := e; omega)).trans (h.block x hx)⟩
def mkV (M : List Mk) : List Value := M.flatMap fun m => [.int .i64 m.l, .int .i64 m.v, .int .i64 m.r]
theorem mkV_length : ∀ M : List Mk, (mkV M).length = M.length * 3
  | [] => rfl
  | m :: M => by have := mkV_length M; simp only [mkV, List.flatMap_cons, List.length_append, List.length_cons, List.length_nil] at this ⊢; omega
theorem mkV_at : ∀ {M : List Mk} {k : Nat}, k < M.length → (mkV M)[k * 3]? = some (.int .i64 (M.getD k default).l) ∧ (mkV M)[k * 3 + 1]? = some (.int .i64 (M.getD k default).v) ∧ (mkV M)[k * 3 + 2]? = some (.int .i64 (M.getD k default).r)
  | m :: M, 0, _ => by simp [mkV]
  | m :: M, k + 1, h => by
    have ih := mkV_at (M := M) (k := k) (by simpa using h)
    have e : mkV (m :: M) = .int .i64 m.l :: .int .i64 m.v :: .int .i64 m.r :: mkV M := rfl
    rw [e, show (k + 1) * 3 = k * 3 + 1 + 1 + 1 by omega, show k * 3 + 1 + 1 + 1 + 1 = (k * 3 + 1) + 1 + 1 + 1 by omega, show k * 3 + 1 + 1 + 1 + 2 = (k * 3 + 2) + 1 + 1 + 1 by omega]
    simp only [List.getElem?_cons_succ, List.getD_cons_succ]
    exact ih
theorem info_k : (Try.prog.info? 46).bind (fun i => i.zero.map fun z => (z, i.size, i.bytes)) = some (.agg #[.int .i64 0, .int .i64 0, .int .i64 0], 3, 24) := by kernel_rfl
theorem info_c : (Try.prog.info? 35).bind (fun i => i.zero.map fun z => (z, i.size, i.bytes)) = some (.slice none 0 0, 1, 24) := by kernel_rfl
theorem ms_of {w : World} {g : Nat} {M : List Mk} (hn : M.length ≤ 17592186044416) (hok : ∀ m ∈ M, okM m) (h : w.heap[g]? = some (.cells (mkV M).toArray 46 (0, 0))) : MsAt w (some ⟨g, 0, none⟩) M :=
  ⟨hn, hok, fun h0 => ⟨g, 0, rfl, fun j hj => by
    obtain ⟨h1, h2, h3⟩ := mkV_at hj
    refine ⟨?_, ?_, ?_⟩
    · rw [Nat.zero_add, cell_of_row w g _ _ _ _ h]; simpa using h1
    · rw [Nat.zero_add, cell_of_row w g _ _ _ _ h]; simpa using h2
    · rw [Nat.zero_add, cell_of_row w g _ _ _ _ h]; simpa using h3⟩⟩
/-- clauses copied so far -/
structure TwI (w : World) (g n : Nat) (C : List (List Int)) (G : Nat → Nat) (k : Nat) : Prop where
  row : ∃ cur : Array Value, w.heap[g]? = some (.cells cur 35 (0, 0)) ∧ cur.size = n
  cell : ∀ i, i < k → w.cell? ⟨g, i, none⟩ = some (.slice (some ⟨G i, 0, none⟩) (C.getD i []).length (C.getD i []).length)
  far : ∀ i, i < k → g < G i
  blk : ∀ i, i < k → w.heap[G i]? = some (.cells (iv (C.getD i [])).toArray 3 (0, 0))
theorem TwI.lt {w : World} {g n k : Nat} {C : List (List Int)} {G : Nat → Nat} (h : TwI w g n C G k) : g < w.heap.size := by obtain ⟨cur, h, _⟩ := h.row; exact (Array.getElem?_eq_some_iff.1 h).1
theorem TwI.later {w w' : World} {g n k : Nat} {C : List (List Int)} {G : Nat → Nat} (h : TwI w g n C G k) (hb : Below w.heap.size w w') : TwI w' g n C G k :=
  ⟨by obtain ⟨cur, h1, h2⟩ := h.row; exact ⟨cur, (hb.block g h.lt).trans h1, h2⟩, fun i hi => below_cell hb (h.cell i hi), h.far, fun i hi => (hb.block _ (Array.getElem?_eq_some_iff.1 (h.blk i hi)).1).trans (h.blk i hi)⟩
theorem TwI.step {w : World} {g n k gi : Nat} {C : List (List Int)} {G : Nat → Nat} (h : TwI w g n C G k) (hk : k < n) (hg : g < gi) (hb : w.heap[gi]? = some (.cells (iv (C.getD k [])).toArray 3 (0, 0))) :
    TwI (w.setCell ⟨g, k, none⟩ (.slice (some ⟨gi, 0, none⟩) (C.getD k []).length (C.getD k []).length)) g n C (fun i => if i = k then gi else G i) (k + 1) := by
  obtain ⟨cur, h1, h2⟩ := h.row
  refine ⟨⟨cur.setIfInBounds k _, by simp [World.setCell, Array.getElem?_modify, h1]; rfl, by simpa using h2⟩, fun i hi => ?_, fun i hi => ?_, fun i hi => ?_⟩
  · by_cases e : i = k
    · subst e
      simp only [if_true]
      exact cell_set_same (x := cur[i]'(by omega)) (by rw [cell_of_row w g i _ _ _ h1]; exact Array.getElem?_eq_getElem _)
    · simp only [if_neg e]
      rw [cell_set_other e]
      exact h.cell i (by omega)
  · by_cases e : i = k
    · simp only [e, if_true]; exact hg
    · simp only [if_neg e]; exact h.far i (by omega)
  · by_cases e : i = k
    · subst e; simp only [if_true]; exact (heap_setCell_other _ _ _ _ (fun e => by have e9 : gi = g := e; omega)).trans hb
    · simp only [if_neg e]; exact (heap_setCell_other _ _ _ _ (fun e9 => by have e8 : G i = g := e9; have := h.far i (by omega); omega)).trans (h.blk i (by omega))
theorem ls_of {w : World} {g : Nat} {l : List Int} (hn : l.length ≤ 17592186044416) (hok : okL l) (h : w.heap[g]? = some (.cells (iv l).toArray 3 (0, 0))) : LsAt w (some ⟨g, 0, none⟩) l :=
  ⟨hn, hok, fun h0 => ⟨g, 0, rfl, fun j hj => by
    rw [Nat.zero_add, cell_of_row w g _ _ _ _ h]
    have h9 := iv_at (zs := l) (i := j) (z := l.getD j 0) (by simp [List.getD, List.getElem?_eq_getElem hj])
    simpa using h9⟩⟩
def twF (C : List (List Int)) (G : Nat → Nat) : Nat → Option Addr × Nat := fun i => (some ⟨G i, 0, none⟩, (C.getD i []).length)
theorem TwI.cs {w : World} {g n : Nat} {C : List (List Int)} {G : Nat → Nat} (h : TwI w g n C G n) (hn : C.length = n) (hn9 : n ≤ 17592186044416) (hl : ∀ i, i < n → (C.getD i []).length ≤ 17592186044416 ∧ okL (C.getD i [])) : CsAt w (some ⟨g, 0, none⟩) C (twF C G) :=
  ⟨by omega, fun i hi => ls_of (hl i (by omega)).1 (hl i (by omega)).2 (h.blk i (by omega)), fun _ => ⟨g, 0, rfl, fun i hi => by rw [Nat.zero_add]; exact h.cell i (by omega)⟩⟩
set_option maxHeartbeats 2000000 in
set_option maxRecDepth 100000 in
theorem ints_is (a : Option Addr) (c : Nat) (l : List Int) (w : World) (h : LsAt w a l) :
    Calls Try.prog 32 #[.slice a l.length c] w fun e w' => ∃ g, e = .returned (.slice (some ⟨g, 0, none⟩) l.length l.length) ∧ w.heap.size ≤ g ∧ w'.heap[g]? = some (.cells (iv l).toArray 3 (0, 0)) ∧ Below w.heap.size w w' := by
  obtain ⟨n, hn⟩ : ∃ n, l.length = n := ⟨_, rfl⟩
  have hM := h.1
  have HA := hide' h
  rw [hn] at hM ⊢
  replace hn := hide' hn
  clear h
  have hm : ∀ w : World, (Instr.makeSlice 26 (.int .i64 (n : Int)) (.int .i64 (n : Int))).run Try.prog w = .ok (.slice (some ⟨w.heap.size, 0, none⟩) n n) (w.alloc (.cells (madeCells #[.int .i64 0] n) 3)) := by
    obtain ⟨i0, hi0, hz0, hz1, hz2⟩ := info_parts info_i
    intro w
    have hr := run_make (P := Try.prog) w 26 3 i0 _ Try.underlying26 hi0 hz0 .i64 .i64 (n : Int) (n : Int) (by omega) (Int.le_refl _) (by rw [hz2]; omega) (by omega)
    rw [hz1, Int.toNat_natCast, Nat.mul_one] at hr
    exact hr
  obtain ⟨w1, hw1⟩ : ∃ w1, w.alloc (.cells (madeCells #[.int .i64 0] n) 3) = w1 := ⟨_, rfl⟩
  have HF := hide' (show Fil w1 w.heap.size 3 (iv l) 0 from by have h9 := fil_new w 3 (iv l) #[.int .i64 0] (madeCells_size _ _); rw [iv_length, hn.out, hw1] at h9; exact h9)
  have HB := hide' (show Below w.heap.size w w1 from by rw [← hw1]; exact below_alloc _)
  have HI := hide' (show ∀ k, k < n → (iv l)[k]? = some (.int .i64 (l.getD k 0)) from fun k hk => iv_at (by simp [List.getD, List.getElem?_eq_getElem (show k < l.length by rw [hn.out]; exact hk)]))
  obtain ⟨g, hg⟩ : ∃ g, w.heap.size = g := ⟨_, rfl⟩
  rw [hg] at HF
  go_enter Try.func32, Try.ntmps32
  go_wp2_with (first | rw [hw1] | rw [hg])
  go_loopw [4] (fun vi wr => ∃ k : Nat, k ≤ n ∧ vi = .int .i64 k ∧ Fil wr g 3 (iv l) k ∧ Below w.heap.size w wr) (fun vi _ => n - (intOf vi).toNat)
  case atStart => exact ⟨0, Nat.zero_le _, rfl, HF.out, HB.out⟩
  case round =>
    clear HF HB hw1 w1
    obtain ⟨k, hk, rfl, hF, hB⟩ := hrel
    have HF := hide' hF
    have HBB := hide' hB
    clear hF
    by_cases hlt : k < n
    · obtain ⟨bb, off, rfl, ck, _, _⟩ := HA.out.el hn.out hlt
      replace ck := below_cell hB ck
      have hi9 := HI.out k hlt
      obtain ⟨y, hy⟩ : ∃ y, l.getD k 0 = y := ⟨_, rfl⟩
      rw [hy] at ck hi9
      clear hy
      obtain ⟨v9, cv⟩ := HF.out.cell (i := k) (by rw [iv_length, hn.out]; exact hlt)
      have fz := fun o => HF.out.row.frozen o
      have HX := hide' (And.intro (HF.out.set hi9) (below_set (k := k) (v := .int .i64 y) hB (Nat.le_of_eq hg)))
      clear hi9 hB
      have i1 : (k : Int) < (n : Int) := by omega
      have i0 : (0 : Int) ≤ (k : Int) := by omega
      go_wp2
      go_roundw
      case rel => exact ⟨k + 1, by omega, by go_num, HX.out.1, HX.out.2⟩
      case measure => simp only [intOf]; omega
    · obtain rfl : k = n := by omega
      have i1 : ¬ (k : Int) < (k : Int) := by omega
      go_wp2
      go_ret
      exact ⟨g, rfl, by omega, HF.out.done (by rw [iv_length, hn.out]), by first | exact HBB.out | (rw [← hg]; exact HBB.out)⟩
set_option maxHeartbeats 2000000 in
set_option maxRecDepth 100000 in
theorem marks_is (a : Option Addr) (c : Nat) (M : List Mk) (w : World) (h : MsAt w a M) (hM : M.length ≤ 1048576) :
    Calls Try.prog 10 #[.slice a M.length c] w fun e w' => ∃ g, e = .returned (.slice (some ⟨g, 0, none⟩) M.length M.length) ∧ MsAt w' (some ⟨g, 0, none⟩) M ∧ Below w.heap.size w w' := by
  obtain ⟨n, hn⟩ : ∃ n, M.length = n := ⟨_, rfl⟩
  have HA := hide' h
  rw [hn] at hM ⊢
  replace hn := hide' hn
  clear h
  have hm : ∀ w : World, (Instr.makeSlice 23 (.int .i64 (n : Int)) (.int .i64 (n : Int))).run Try.prog w = .ok (.slice (some ⟨w.heap.size, 0, none⟩) n n) (w.alloc (.cells (madeCells #[.int .i64 0, .int .i64 0, .int .i64 0] (n * 3)) 46)) := by
    obtain ⟨i0, hi0, hz0, hz1, hz2⟩ := info_parts info_k
    intro w
    have hr := run_make (P := Try.prog) w 23 46 i0 _ Try.underlying23 hi0 hz0 .i64 .i64 (n : Int) (n : Int) (by omega) (Int.le_refl _) (by rw [hz2]; omega) (by omega)
    rw [hz1, Int.toNat_natCast] at hr
    exact hr
  obtain ⟨w1, hw1⟩ : ∃ w1, w.alloc (.cells (madeCells #[.int .i64 0, .int .i64 0, .int .i64 0] (n * 3)) 46) = w1 := ⟨_, rfl⟩
  have HF := hide' (show Fil w1 w.heap.size 46 (mkV M) (0 * 3) from by have h9 := fil_new w 46 (mkV M) #[.int .i64 0, .int .i64 0, .int .i64 0] (madeCells_size _ _); rw [mkV_length, hn.out, hw1] at h9; exact h9)
  have HB := hide' (show Below w.heap.size w w1 from by rw [← hw1]; exact below_alloc _)
  obtain ⟨g, hg⟩ : ∃ g, w.heap.size = g := ⟨_, rfl⟩
  rw [hg] at HF
  go_enter Try.func10, Try.ntmps10
  go_wp2_with (first | rw [hw1] | rw [hg])
  go_loopw [4] (fun vi wr => ∃ k : Nat, k ≤ n ∧ vi = .int .i64 k ∧ Fil wr g 46 (mkV M) (k * 3) ∧ Below w.heap.size w wr) (fun vi _ => n - (intOf vi).toNat)
  case atStart => exact ⟨0, Nat.zero_le _, rfl, HF.out, HB.out⟩
  case round =>
    clear HF HB hw1 w1
    obtain ⟨k, hk, rfl, hF, hB⟩ := hrel
    have HF := hide' hF
    have HBB := hide' hB
    clear hF
    by_cases hlt : k < n
    · obtain ⟨bb, off, rfl, ⟨ck, ck1, ck2⟩, _⟩ := HA.out.el hn.out hlt
      replace ck := below_cell hB ck
      replace ck1 := below_cell hB ck1
      replace ck2 := below_cell hB ck2
      obtain ⟨m1, m2, m3⟩ := mkV_at (M := M) (k := k) (by rw [hn.out]; exact hlt)
      obtain ⟨y, hy⟩ : ∃ y, (M.getD k default).l = y := ⟨_, rfl⟩
      obtain ⟨y1, hy1⟩ : ∃ y, (M.getD k default).v = y := ⟨_, rfl⟩
      obtain ⟨y2, hy2⟩ : ∃ y, (M.getD k default).r = y := ⟨_, rfl⟩
      rw [hy] at ck m1
      rw [hy1] at ck1 m2
      rw [hy2] at ck2 m3
      clear hy hy1 hy2
      obtain ⟨v0, cv0⟩ := HF.out.cell (i := k * 3 + 0) (by rw [mkV_length, hn.out]; omega)
      obtain ⟨v1, cv1⟩ := HF.out.cell (i := k * 3 + 1) (by rw [mkV_length, hn.out]; omega)
      obtain ⟨v2, cv2⟩ := HF.out.cell (i := k * 3 + 2) (by rw [mkV_length, hn.out]; omega)
      have fz := fun o => HF.out.row.frozen o
      rw [Nat.add_zero] at cv0
      have HX := hide' (show Fil (((wr.setCell ⟨g, k * 3, none⟩ (.int .i64 y)).setCell ⟨g, k * 3 + 1, none⟩ (.int .i64 y1)).setCell ⟨g, k * 3 + 2, none⟩ (.int .i64 y2)) g 46 (mkV M) ((k + 1) * 3) ∧ Below w.heap.size w (((wr.setCell ⟨g, k * 3, none⟩ (.int .i64 y)).setCell ⟨g, k * 3 + 1, none⟩ (.int .i64 y1)).setCell ⟨g, k * 3 + 2, none⟩ (.int .i64 y2)) from ⟨by have h9 := ((HF.out.set m1).set m2).set m3; rw [show (k + 1) * 3 = k * 3 + 1 + 1 + 1 by omega]; exact h9, below_set (below_set (below_set hB (Nat.le_of_eq hg)) (Nat.le_of_eq hg)) (Nat.le_of_eq hg)⟩)
      clear m1 m2 m3 hB
      have i1 : (k : Int) < (n : Int) := by omega
      have i0 : (0 : Int) ≤ (k : Int) := by omega
      go_wp2
      go_roundw
      case rel => exact ⟨k + 1, by omega, by go_num, HX.out.1, HX.out.2⟩
      case measure => simp only [intOf]; omega
    · obtain rfl : k = n := by omega
      have i1 : ¬ (k : Int) < (k : Int) := by omega
      go_wp2
      go_ret
      exact ⟨g, rfl, ms_of HA.out.1 HA.out.2.1 (HF.out.done (by rw [mkV_length, hn.out])), by first | exact HBB.out | (rw [← hg]; exact HBB.out)⟩
set_option maxHeartbeats 2000000 in
set_option maxRecDepth 100000 in
theorem twin_is (a : Option Addr) (c : Nat) (C : List (List Int)) (f : Nat → Option Addr × Nat) (w : World) (h : CsAt w a C f) (hM : C.length ≤ 1048576) :
    Calls Try.prog 9 #[.slice a C.length c] w fun e w' => ∃ g, e = .returned (.slice (some ⟨g, 0, none⟩) C.length C.length) ∧ (∃ G, CsAt w' (some ⟨g, 0, none⟩) C (twF C G)) ∧ Below w.heap.size w w' := by
  obtain ⟨n, hn⟩ : ∃ n, C.length = n := ⟨_, rfl⟩
  have HA := hide' h
  rw [hn] at hM ⊢
  replace hn := hide' hn
  clear h
  have GI := hide' (fun a c l w h => ints_is a c l w h)
  have hm : ∀ w : World, (Instr.makeSlice 22 (.int .i64 (n : Int)) (.int .i64 (n : Int))).run Try.prog w = .ok (.slice (some ⟨w.heap.size, 0, none⟩) n n) (w.alloc (.cells (madeCells #[.slice none 0 0] n) 35)) := by
    obtain ⟨i0, hi0, hz0, hz1, hz2⟩ := info_parts info_c
    intro w
    have hr := run_make (P := Try.prog) w 22 35 i0 _ Try.underlying22 hi0 hz0 .i64 .i64 (n : Int) (n : Int) (by omega) (Int.le_refl _) (by rw [hz2]; omega) (by omega)
    rw [hz1, Int.toNat_natCast, Nat.mul_one] at hr
    exact hr
  obtain ⟨w1, hw1⟩ : ∃ w1, w.alloc (.cells (madeCells #[.slice none 0 0] n) 35) = w1 := ⟨_, rfl⟩
  have HF := hide' (show TwI w1 w.heap.size n C (fun _ => 0) 0 from ⟨⟨_, by rw [← hw1]; exact heap_alloc_new w _, madeCells_size _ _⟩, fun i hi => absurd hi (by omega), fun i hi => absurd hi (by omega), fun i hi => absurd hi (by omega)⟩)
  have HB := hide' (show Below w.heap.size w w1 from by rw [← hw1]; exact below_alloc _)
  obtain ⟨g, hg⟩ : ∃ g, w.heap.size = g := ⟨_, rfl⟩
  rw [hg] at HF
  go_enter Try.func9, Try.ntmps9
  go_wp2_with (first | rw [hw1] | rw [hg])
  go_loopw [4] (fun vi wr => ∃ (k : Nat) (G : Nat → Nat), k ≤ n ∧ vi = .int .i64 k ∧ TwI wr g n C G k ∧ Below w.heap.size w wr) (fun vi _ => n - (intOf vi).toNat)
  case atStart => exact ⟨0, _, Nat.zero_le _, rfl, HF.out, HB.out⟩
  case round =>
    clear HF HB hw1 w1
    obtain ⟨k, G, hk, rfl, hF, hB⟩ := hrel
    have HF := hide' hF
    have HBB := hide' hB
    clear hF
    by_cases hlt : k < n
    · obtain ⟨bb, off, rfl, ck, hL⟩ := HA.out.el hn.out hlt
      replace ck := below_cell hB ck
      have GK := hide' (GI.out (f k).1 (f k).2 (C.getD k []) wr (hL.later hB))
      clear hL hB
      have i1 : (k : Int) < (n : Int) := by omega
      have i0 : (0 : Int) ≤ (k : Int) := by omega
      go_wp2_with fail
      refine GK.out.mono ?_
      rintro e w5 ⟨gi, rfl, hgi, hbi, b5⟩
      clear GK
      have hF5 := HF.out.later b5
      have hlg := HF.out.lt
      obtain ⟨cur, hr5, hcs⟩ := hF5.row
      obtain ⟨v9, cv⟩ : ∃ v, w5.cell? ⟨g, k, none⟩ = some v := ⟨cur[k]'(by omega), by rw [cell_of_row w5 g k _ _ _ hr5]; exact Array.getElem?_eq_getElem _⟩
      have fz := fun o => frozen_of_row w5 g o _ _ hr5
      have HX := hide' (And.intro (hF5.step hlt (by omega) hbi) (below_set (k := k) (v := .slice (some ⟨gi, 0, none⟩) (C.getD k []).length (C.getD k []).length) (HBB.out.trans (b5.mono HBB.out.size)) (Nat.le_of_eq hg)))
      clear hF5 hr5 hcs hbi b5
      go_wp2
      go_roundw
      case rel => exact ⟨k + 1, _, by omega, by go_num, HX.out.1, HX.out.2⟩
      case measure => simp only [intOf]; omega
    · obtain rfl : k = n := by omega
      have i1 : ¬ (k : Int) < (k : Int) := by omega
      go_wp2
      go_ret
      exact ⟨g, rfl, ⟨G, HF.out.cs hn.out (by omega) (fun i hi => ⟨(HA.out.2.1 i (by rw [hn.out]; exact hi)).1, (HA.out.2.1 i (by rw [hn.out]; exact hi)).2.1⟩)⟩, by first | exact HBB.out | (rw [← hg]; exact HBB.out)⟩
end Go.Proofs.Ytbcbgglhhfdbcab
