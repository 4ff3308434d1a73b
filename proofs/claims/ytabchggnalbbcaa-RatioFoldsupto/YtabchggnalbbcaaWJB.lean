/-
  A list of whole numbers that is made and filled.
-/
import Derived.Test.YtabchggnalbbcaaWJ8
import Derived.Test.YtabchggnalbbcaaThr3
import Derived.Laws.OwnMore
namespace Go.Proofs.Ytabchggnalbbcaa
open Go.RowKit
set_option linter.unusedVariables false
set_option linter.unusedSimpArgs false

theorem info_IntB : (Try.prog.info? 26).map (fun i => (i.zero, i.size, i.bytes)) = some (some (.agg #[.bool false, .slice none 0 0]), 2, 32) := by kernel_rfl
def zint : Array Value := #[.bool false, .slice none 0 0]
def zeroI : IV := ⟨false, none, 0, 0, 0⟩
theorem made_atI (z : Array Value) (m i j : Nat) (h : i * z.size + j < m) (hj : j < z.size) : (madeCells z m)[i * z.size + j]? = z[j]? := by
  have e : (i * z.size + j) % z.size = j := by rw [Nat.add_comm, Nat.add_mul_mod_self_right, Nat.mod_eq_of_lt hj]
  unfold madeCells
  rw [Array.getElem?_map, Array.getElem?_range, if_pos h]
  simp only [Option.map_some, e]
  rw [Array.getElem?_eq_getElem hj, getElem!_pos z j hj]
theorem mk_ints {ops : Array Oper} {rest : List Oper} {o : Oper} {a : Act} {Q : Exit → Act → World → Prop} (w : World)
    (hg : o.guard = none) (l c : Operand) (hop : o.op = Op.makeSlice 22 l c) (n : Nat) (hl : a.eval l = .int .i64 n) (hc : a.eval c = .int .i64 n) (hn : n ≤ 1048576)
    (hK : ∀ w', IntsAt w' (some ⟨w.heap.size, 0, none⟩) n (fun _ => zeroI) → Row w' w.heap.size → Below w.heap.size w w' → w'.heap.size = w.heap.size + 1 → wpList Try.prog ops Q rest (a.put o.dst (.slice (some ⟨w.heap.size, 0, none⟩) n n)) w') :
    wpList Try.prog ops Q (o :: rest) a w := by
  refine wpList_plain hg fun K hK' => ?_
  obtain ⟨i0, hi0, hz0, hz1, hz2⟩ := info_parts info_IntB
  have hr := run_make (P := Try.prog) w 22 26 i0 _ Try.underlying22 hi0 hz0 .i64 .i64 n n (by omega) (Int.le_refl _) (by rw [hz2]; omega) (by omega)
  simp only [Int.toNat_natCast] at hr
  rw [hz1] at hr
  have ho := World.ownsRow_lit (e := 26) (size := 2) w (madeCells zint (n * 2)) n (Nat.le_refl _) (by simp [maxLen]; omega) (size_madeCells _ _)
  unfold Oper.wp
  simp [execOp, hop, hl, hc, hr, Result.andThen]
  refine hK' _ _ (hK _ ?_ ?_ (below_alloc _) (Array.size_push _))
  · intro hn0
    refine ⟨w.heap.size, 0, rfl, ?_, fun i hi => ?_⟩
    · show w.heap.size < (w.heap.push _).size
      rw [Array.size_push]; omega
    · have c0 := ho.cellAt (i * 2) (by omega)
      have c1 := ho.cellAt (i * 2 + 1) (by omega)
      have e0 : (madeCells zint (n * 2)).toList[i * 2]? = zint[0]? := by
        rw [Array.getElem?_toList]
        exact made_atI zint (n * 2) i 0 (by show i * 2 + 0 < _; omega) (by decide)
      have e1 : (madeCells zint (n * 2)).toList[i * 2 + 1]? = zint[1]? := by
        rw [Array.getElem?_toList]
        exact made_atI zint (n * 2) i 1 (by show i * 2 + 1 < _; omega) (by decide)
      rw [e0] at c0
      rw [e1] at c1
      rw [Nat.zero_add]
      exact ⟨c0, c1⟩
  · exact row_new w _ 26
/-- a number stored into such a list -/
theorem ints_put {w : World} {gb n j : Nat} {k : Nat → IV} (x : IV) (h : IntsAt w (some ⟨gb, 0, none⟩) n k) (hj : j < n) :
    IntsAt ((w.setCell ⟨gb, j * 2, none⟩ (.bool x.s)).setCell ⟨gb, j * 2 + 1, none⟩ (.slice x.a x.n x.c)) (some ⟨gb, 0, none⟩) n (fun i => if i = j then x else k i) ∧
      (∀ p X m, Seg w p X m → Seg ((w.setCell ⟨gb, j * 2, none⟩ (.bool x.s)).setCell ⟨gb, j * 2 + 1, none⟩ (.slice x.a x.n x.c)) p X m) ∧
      w.cell? ⟨gb, j * 2, none⟩ = some (.bool (k j).s) ∧ w.cell? ⟨gb, j * 2 + 1, none⟩ = some (.slice (k j).a (k j).n (k j).c) := by
  obtain ⟨b, off, e, hl, hc⟩ := h (by omega)
  have e := Option.some.inj e
  simp only [Addr.mk.injEq, and_true] at e
  obtain ⟨rfl, rfl⟩ := e
  obtain ⟨c0, c1⟩ := hc j hj
  rw [Nat.zero_add] at c0 c1
  have c1' : (w.setCell ⟨gb, j * 2, none⟩ (.bool x.s)).cell? ⟨gb, j * 2 + 1, none⟩ = some (.slice (k j).a (k j).n (k j).c) := by
    rw [World.cell?_setCell_other _ _ _ _ (fun e => by simp at e)]
    exact c1
  refine ⟨fun _ => ⟨gb, 0, rfl, by simpa [World.setCell] using hl, fun i hi => ?_⟩, fun p X m hs => seg_setT (seg_setT hs c0 (by simp)) c1' (by simp), c0, c1⟩
  rw [Nat.zero_add]
  by_cases he : i = j
  · subst he
    simp only [if_true]
    refine ⟨?_, World.cell?_setCell_same' _ _ _ (by rw [c1']; rfl)⟩
    rw [World.cell?_setCell_other _ _ _ _ (fun e => by simp at e)]
    exact World.cell?_setCell_same' _ _ _ (by rw [c0]; rfl)
  · simp only [if_neg he]
    obtain ⟨d0, d1⟩ := hc i hi
    rw [Nat.zero_add] at d0 d1
    rw [World.cell?_setCell_other _ _ _ _ (fun e => by simp at e <;> omega), World.cell?_setCell_other _ _ _ _ (fun e => by simp at e <;> omega), World.cell?_setCell_other _ _ _ _ (fun e => by simp at e <;> omega), World.cell?_setCell_other _ _ _ _ (fun e => by simp at e <;> omega)]
    exact ⟨d0, d1⟩
end Go.Proofs.Ytabchggnalbbcaa
