/-
  analyse: lists of ints, lists of marks, lists of clauses in memory, told as lists.
-/
import Derived.Test.YtbcbgglhhfdbcabUA0
namespace Go.Proofs.Ytbcbgglhhfdbcab
open Go.RowKit
set_option linter.unusedVariables false
set_option linter.unusedSimpArgs false
/-- an int64 -/
def i64 (x : Int) : Prop := -9223372036854775808 ≤ x ∧ x ≤ 9223372036854775807
/-- a list of ints in memory -/
def LsAt (w : World) (a : Option Addr) (l : List Int) : Prop := l.length ≤ 17592186044416 ∧ okL l ∧ (0 < l.length → ∃ b off, a = some ⟨b, off, none⟩ ∧ ∀ i, i < l.length → w.cell? ⟨b, off + i, none⟩ = some (.int .i64 (l.getD i 0)))
theorem LsAt.later {w w' : World} {a : Option Addr} {l : List Int} (h : LsAt w a l) (hb : Below w.heap.size w w') : LsAt w' a l :=
  ⟨h.1, h.2.1, fun hn => by obtain ⟨b, off, e, hc⟩ := h.2.2 hn; exact ⟨b, off, e, fun i hi => below_cell hb (hc i hi)⟩⟩
theorem getD_mem {α : Type} {l : List α} {d : α} {k : Nat} (hk : k < l.length) : l.getD k d ∈ l := by
  simp only [List.getD, List.getElem?_eq_getElem hk, Option.getD_some]; exact List.getElem_mem _
theorem LsAt.el {w : World} {a : Option Addr} {l : List Int} (h : LsAt w a l) {n : Nat} (hn : l.length = n) {k : Nat} (hk : k < n) : ∃ b off, a = some ⟨b, off, none⟩ ∧ w.cell? ⟨b, off + k, none⟩ = some (.int .i64 (l.getD k 0)) ∧ -9223372036854775808 ≤ l.getD k 0 ∧ l.getD k 0 ≤ 9223372036854775807 := by
  obtain ⟨b, off, e, hc⟩ := h.2.2 (by omega)
  exact ⟨b, off, e, hc k (by omega), h.2.1 _ (getD_mem (by omega))⟩
theorem take_snoc {α : Type} (l : List α) (d : α) {k n : Nat} (hn : l.length = n) (hk : k < n) : l.take (k + 1) = l.take k ++ [l.getD k d] := by
  have h : k < l.length := by omega
  rw [List.take_succ_eq_append_getElem h]; simp [List.getD, List.getElem?_eq_getElem h]
theorem take_all {α : Type} (l : List α) {n : Nat} (hn : l.length = n) : l.take n = l := by rw [← hn]; exact List.take_length
theorem snoc_ind {α : Type} {P : List α → Prop} (h0 : P []) (h1 : ∀ l a, P l → P (l ++ [a])) (l : List α) : P l := by
  have h : ∀ m : List α, P m.reverse := fun m => by
    induction m with
    | nil => exact h0
    | cons a m ih => rw [List.reverse_cons]; exact h1 _ _ ih
  have := h l.reverse
  rwa [List.reverse_reverse] at this
/-- a mark -/
structure Mk where
  l : Int
  v : Int
  r : Int
instance : Inhabited Mk := ⟨⟨0, 0, 0⟩⟩
def okM (m : Mk) : Prop := i64 m.l ∧ i64 m.v ∧ i64 m.r
/-- marks in memory -/
def MsAt (w : World) (ma : Option Addr) (M : List Mk) : Prop := M.length ≤ 17592186044416 ∧ (∀ m ∈ M, okM m) ∧ (0 < M.length → ∃ b off, ma = some ⟨b, off, none⟩ ∧ ∀ j, j < M.length →
  w.cell? ⟨b, off + j * 3, none⟩ = some (.int .i64 (M.getD j default).l) ∧ w.cell? ⟨b, off + j * 3 + 1, none⟩ = some (.int .i64 (M.getD j default).v) ∧ w.cell? ⟨b, off + j * 3 + 2, none⟩ = some (.int .i64 (M.getD j default).r))
theorem MsAt.later {w w' : World} {ma : Option Addr} {M : List Mk} (h : MsAt w ma M) (hb : Below w.heap.size w w') : MsAt w' ma M :=
  ⟨h.1, h.2.1, fun h0 => by
    obtain ⟨b, off, e, hc⟩ := h.2.2 h0
    exact ⟨b, off, e, fun j hj => by obtain ⟨a1, a2, a3⟩ := hc j hj; exact ⟨below_cell hb a1, below_cell hb a2, below_cell hb a3⟩⟩⟩
theorem MsAt.el {w : World} {ma : Option Addr} {M : List Mk} (h : MsAt w ma M) {n : Nat} (hn : M.length = n) {k : Nat} (hk : k < n) : ∃ b off, ma = some ⟨b, off, none⟩ ∧
    (w.cell? ⟨b, off + k * 3, none⟩ = some (.int .i64 (M.getD k default).l) ∧ w.cell? ⟨b, off + k * 3 + 1, none⟩ = some (.int .i64 (M.getD k default).v) ∧ w.cell? ⟨b, off + k * 3 + 2, none⟩ = some (.int .i64 (M.getD k default).r)) ∧ okM (M.getD k default) := by
  obtain ⟨b, off, e, hc⟩ := h.2.2 (by omega)
  exact ⟨b, off, e, hc k (by omega), h.2.1 _ (getD_mem (by omega))⟩
theorem getD_take_lt {α : Type} (l : List α) (d : α) {i k : Nat} (h : i < k) : (l.take k).getD i d = l.getD i d := by simp [List.getD, List.getElem?_take_of_lt h]
theorem MsAt.take {w : World} {ma : Option Addr} {M : List Mk} (h : MsAt w ma M) (k : Nat) : MsAt w ma (M.take k) :=
  ⟨by rw [List.length_take]; have := h.1; omega, fun m hm => h.2.1 m (List.mem_of_mem_take hm), fun h0 => by
    rw [List.length_take] at h0
    obtain ⟨b, off, e, hc⟩ := h.2.2 (by omega)
    refine ⟨b, off, e, fun j hj => ?_⟩
    rw [List.length_take] at hj
    rw [getD_take_lt _ _ (show j < k by omega)]
    exact hc j (by omega)⟩
/-- a list of clauses in memory: h tells where each lies, and its room -/
def CsAt (w : World) (a : Option Addr) (C : List (List Int)) (h : Nat → Option Addr × Nat) : Prop := C.length ≤ 17592186044416 ∧ (∀ i, i < C.length → LsAt w (h i).1 (C.getD i [])) ∧
  (0 < C.length → ∃ b off, a = some ⟨b, off, none⟩ ∧ ∀ i, i < C.length → w.cell? ⟨b, off + i, none⟩ = some (.slice (h i).1 (C.getD i []).length (h i).2))
theorem CsAt.later {w w' : World} {a : Option Addr} {C : List (List Int)} {f : Nat → Option Addr × Nat} (h : CsAt w a C f) (hb : Below w.heap.size w w') : CsAt w' a C f :=
  ⟨h.1, fun i hi => (h.2.1 i hi).later hb, fun hn => by obtain ⟨b, off, e, hc⟩ := h.2.2 hn; exact ⟨b, off, e, fun i hi => below_cell hb (hc i hi)⟩⟩
theorem CsAt.el {w : World} {a : Option Addr} {C : List (List Int)} {f : Nat → Option Addr × Nat} (h : CsAt w a C f) {n : Nat} (hn : C.length = n) {k : Nat} (hk : k < n) : ∃ b off, a = some ⟨b, off, none⟩ ∧ w.cell? ⟨b, off + k, none⟩ = some (.slice (f k).1 (C.getD k []).length (f k).2) ∧ LsAt w (f k).1 (C.getD k []) := by
  obtain ⟨b, off, e, hc⟩ := h.2.2 (by omega)
  exact ⟨b, off, e, hc k (by omega), h.2.1 k (by omega)⟩
theorem own_ls {w : World} {base : Nat} {e : TypeId} {v : Value} {zs : List Int} (h : w.ownsRow base e 1 v zs.length (iv zs)) (ho : okL zs) (hl : zs.length ≤ 17592186044416) : ∃ a cap, v = .slice a zs.length cap ∧ zs.length ≤ cap ∧ LsAt w a zs := by
  obtain ⟨a, cap, e1, hc, h1, h2, h3⟩ := own_lits h ho
  exact ⟨a, cap, e1, hc, hl, ho, h3⟩
/-- a list that a call has made -/
def Own (base : Nat) (w : World) (v : Value) (s : List Int) : Prop := w.ownsRow base 3 1 v s.length (iv s)
theorem Own.later {base : Nat} {w w' : World} {v : Value} {s : List Int} (h : Own base w v s) (hb : Below w.heap.size w w') : Own base w' v s := own_below h hb
theorem Own.nil (base : Nat) (w : World) : Own base w (.slice none 0 0) [] := World.ownsRow_nil _ _ _ _
theorem Own.empty (w : World) : Own w.heap.size (w.alloc (.cells #[] 3)) (.slice (some ⟨w.heap.size, 0, none⟩) 0 0) [] :=
  ⟨rfl, Or.inr ⟨w.heap.size, 0, #[], rfl, Nat.le_refl _, heap_alloc_new w _, Nat.le_refl _, Nat.zero_le _, rfl, rfl⟩⟩
theorem Own.ls {base : Nat} {w : World} {v : Value} {s : List Int} (h : Own base w v s) (ho : okL s) (hl : s.length ≤ 17592186044416) : ∃ a cap, v = .slice a s.length cap ∧ s.length ≤ cap ∧ LsAt w a s := own_ls h ho hl
/-- the place of a literal's mark, or -1 -/
def plV (l : List Mk) (x : Int) : Int := fstN (fun j => decide ((l.getD j default).l = x)) l.length
theorem fst_ex {p : Nat → Prop} [DecidablePred p] : ∀ {j : Nat}, p j → ∃ m, m ≤ j ∧ p m ∧ ∀ i, i < m → ¬ p i := by
  intro j
  induction j using Nat.strongRecOn with
  | ind j ih =>
    intro h
    by_cases hx : ∃ i, i < j ∧ p i
    · obtain ⟨i, hi, ei⟩ := hx
      obtain ⟨m, hm, r⟩ := ih i hi ei
      exact ⟨m, by omega, r⟩
    · exact ⟨j, Nat.le_refl _, h, fun i hi q => hx ⟨i, hi, q⟩⟩
theorem plV_spec (l : List Mk) (x : Int) : (plV l x = -1 ∧ ∀ j, j < l.length → (l.getD j default).l ≠ x) ∨ ∃ m : Nat, m < l.length ∧ plV l x = m ∧ (l.getD m default).l = x ∧ ∀ i, i < m → (l.getD i default).l ≠ x := by
  unfold plV
  by_cases h : ∃ j, j < l.length ∧ (l.getD j default).l = x
  · obtain ⟨j, hj, ej⟩ := h
    obtain ⟨m, hm, e1, e2⟩ := fst_ex (p := fun i => (l.getD i default).l = x) ej
    exact Or.inr ⟨m, by omega, fstN_at (p := fun j => decide ((l.getD j default).l = x)) (decide_eq_true e1) (fun i hi => decide_eq_false (e2 i hi)) (by omega), e1, e2⟩
  · exact Or.inl ⟨fstN_none fun i hi => decide_eq_false fun e => h ⟨i, hi, e⟩, fun j hj e => h ⟨j, hj, e⟩⟩
theorem plV_neg {l : List Mk} {x : Int} : plV l x < 0 ↔ ∀ j, j < l.length → (l.getD j default).l ≠ x := by
  rcases plV_spec l x with ⟨h1, h2⟩ | ⟨m, hm, h1, h2, _⟩
  · exact ⟨fun _ => h2, fun _ => by omega⟩
  · exact ⟨fun h => by omega, fun h => absurd h2 (h m hm)⟩
theorem wrap_neg {x : Int} (h1 : -9223372036854775808 < x) (h2 : x ≤ 9223372036854775807) : IntKind.i64.wrap (-x) = -x := by rw [IntKind.wrap_i64]; omega
theorem wrap_neg0 {x : Int} (h1 : -9223372036854775808 < x) (h2 : x ≤ 9223372036854775807) : IntKind.i64.wrap (0 - x) = -x := by rw [IntKind.wrap_i64]; omega
end Go.Proofs.Ytbcbgglhhfdbcab
