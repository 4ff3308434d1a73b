/-
  What is told by a reader in memory.
-/
import Derived.Test.YtibeiggedmabkaaDoorSXD
namespace Go.Proofs.YtibeiggedmabkaaDoor
open Go.RowKit
set_option linter.unusedVariables false
set_option linter.unusedSimpArgs false
def lv00 : Lv := ⟨⟨0, ⟨#[]⟩, 0, 0, 0, 0⟩, .slice none 0 0, [], []⟩
theorem relB_00 : RelB [lv00] b0 := .one lv00
theorem newR_at (w : World) (hM : mxB < w.heap.size) : Calls Tryd.prog 15 #[] w fun r w' => ∃ b sc gl, r = .returned (.pointer (some ⟨b, 0, none⟩)) ∧ RdAt w' w.heap.size b (some ⟨sc, 0, none⟩) false 0 0 gl 1 (fun _ => False) [lv00] ∧ ScAt w' w'.heap.size sc sI ∧ sc ≠ b ∧ sc ≠ gl ∧ w.heap.size ≤ b ∧ w.heap.size ≤ sc ∧ w.heap.size ≤ gl ∧ Below w.heap.size w w' := by
  refine (newR_is w).mono ?_
  rintro e w' ⟨b, sc, gl, rfl, qR, qS, qG, n1, n2, n3, l1, l2, l3, hB⟩
  refine ⟨b, sc, gl, rfl, ⟨qR, ?_, ?_, ?_, ?_, ?_, ?_, Ne.symm n2, by decide, hB.size, fun g hg => hg.elim⟩, ⟨qS, qS.lt, by omega, World.ownsRow_nil _ _ _ _⟩, Ne.symm n1, n3, l1, l2, l3, hB⟩
  · exact ⟨rfl, Or.inr ⟨gl, 1, _, rfl, l3, qG, Nat.le_refl _, by decide, rfl, rfl⟩⟩
  · intro x hx
    rw [List.mem_singleton.1 hx]
    exact World.ownsRow_nil _ _ _ _
  · intro x hx
    rw [List.mem_singleton.1 hx]
    exact ⟨rfl, fun i hi => absurd hi (Nat.not_lt_zero _)⟩
  · exact List.pairwise_singleton _ _
  · intro x hx g hg
    rw [List.mem_singleton.1 hx] at hg
    simp [lv00, Value.ownBlock] at hg
  · exact fun g hg => hg.elim
end Go.Proofs.YtibeiggedmabkaaDoor

namespace Go.Proofs.YtibeiggedmabkaaDoor
open Go.RowKit
set_option linter.unusedVariables false
set_option linter.unusedSimpArgs false
theorem RdAt.kp {w w' : World} {base b : Nat} {p : Option Addr} {en : Bool} {er pl : Int} {gl c : Nat} {P Y : Nat → Prop} {lv : List Lv} (h : RdAt w base b p en er pl gl c P lv) (k : Kp Y w w') (hY : ∀ i, RdX b gl lv i → ¬ Y i) (hP : ∀ g, P g → ¬ Y g) : RdAt w' base b p en er pl gl c P lv :=
  ⟨k.blk h.blk (hY b (Or.inl rfl)), own_kp h.own k (fun g hg => hY g (Or.inr (Or.inl (by injection hg with hg; exact hg.symm)))), fun x hx => own_kp (h.ok x hx) k (fun g hg => hY g (Or.inr (Or.inr ⟨x, hx, hg⟩))), fun x hx => (h.kn x hx).kept (fun g hg hl => k.block g hl (hP g hg)) (fun _ c => c), h.ap, h.far, fun g hg => ⟨(h.pf g hg).1, (h.pf g hg).2.1, Nat.lt_of_lt_of_le (h.pf g hg).2.2 k.size⟩, h.gb, h.few, Nat.le_trans h.low k.size, fun g hg => (h.ty g hg).of (k.block g (h.pf g hg).2.2 (hP g hg))⟩
theorem Leaves.congr {P : Program} {fn : Func} {T T' : Array Value} {R : Ending → World → Prop} (hr : results fn T = results fn T') : ∀ {ds : List Deferred} {u : FrameMode} {w : World}, Leaves P fn T R ds u w → Leaves P fn T' R ds u w := by
  intro ds
  induction ds with
  | nil =>
    intro u w h
    cases u with
    | returning => simp only [Leaves] at h ⊢; rw [← hr]; exact h
    | panicking c => exact h
    | run => exact h
  | cons d ds ih =>
    intro u w h
    simp only [Leaves] at h ⊢
    obtain ⟨h1, fv, cap, f, args, ht, hi, hc⟩ := h
    refine ⟨h1, fv, cap, f, args, ht, hi, hc.mono ?_⟩
    intro e u' w' he
    cases e with
    | returned v => exact ih he
    | panicked c => exact ih he
    | outgrown => exact he
theorem bodyD_put {P : Program} {fn : Func} {R : Ending → World → Prop} {K : Act → World → Prop} {a : Act} {d : Nat} {v : Value} {c : List PanicEntry} {w : World} (hr : ∀ T : Array Value, results fn (T.setIfInBounds d v) = results fn T) (h : Exit.then K (bodyPostD P fn R) (.panic c) (a.put (some d) v) w) : Exit.then K (bodyPostD P fn R) (.panic c) a w :=
  Leaves.congr (hr a.tmps) h
end Go.Proofs.YtibeiggedmabkaaDoor

namespace Go.Proofs.YtibeiggedmabkaaDoor
open Go.RowKit
set_option linter.unusedVariables false
set_option linter.unusedSimpArgs false
theorem nv_first (ini : List Lv) (x : Lv) : nvCells (lsOf (ini ++ [x])) = x.t.cells ++ (x.v :: nvCells (lsOf ini)) := by
  simp [lsOf, nvCells]
/-- the text's own list is emptied; what stood in it is told -/
theorem rd_tell {w w' : World} {base b : Nat} {p : Option Addr} {en : Bool} {er pl : Int} {gl c : Nat} {P Z : Nat → Prop} {ini : List Lv} {x : Lv} (h : RdAt w base b p en er pl gl c P (ini ++ [x]))
    (hb : Blk w' b (rdC p (.slice (some ⟨gl, 0, none⟩) (ini ++ [x]).length c) (((ini ++ [x]).length : Int) - 1) en er pl) 63)
    (hg : w'.heap[gl]? = (w.setCell ⟨gl, 6, none⟩ (.slice none 0 0)).heap[gl]?) (k : Kp Z w w') (hZ : ∀ y ∈ ini ++ [x], ∀ g, y.v.ownBlock = some g → ¬ Z g) (hZP : ∀ g, P g → ¬ Z g) (hkx : x.K.length ≤ 1099511627776) :
    RdAt w' base b p en er pl gl c P (ini ++ [⟨x.t, .slice none 0 0, [], []⟩]) ∧ NdIn w' (fun g => P g ∨ x.v.ownBlock = some g) x.v x.N := by
  have hx : x ∈ ini ++ [x] := by simp
  have hi : ∀ y ∈ ini, y ∈ ini ++ [x] := fun y hy => List.mem_append_left _ hy
  have hP : ∀ g, P g → g < w.heap.size → w'.heap[g]? = w.heap[g]? := fun g hg hl => k.block g hl (hZP g hg)
  obtain ⟨p1, p2, p3⟩ := List.pairwise_append.1 h.ap
  have el : (ini ++ [(⟨x.t, .slice none 0 0, [], []⟩ : Lv)]).length = (ini ++ [x]).length := by simp
  have hs := (h.own.stored 6 (.slice none 0 0)).1
  have e1 : (nvCells (lsOf (ini ++ [x]))).set 6 (.slice none 0 0) = nvCells (lsOf (ini ++ [(⟨x.t, .slice none 0 0, [], []⟩ : Lv)])) := by
    rw [nv_first, nv_first]
    rfl
  rw [e1] at hs
  refine ⟨⟨?_, ?_, ?_, ?_, ?_, ?_, ?_, h.gb, ?_, Nat.le_trans h.low k.size, fun g hg => (h.ty g hg).of (hP g hg (h.pf g hg).2.2)⟩, ?_⟩
  · rw [el]; exact hb
  · rw [el]; exact own_heap hs hg
  · intro y hy
    rcases List.mem_append.1 hy with e | e
    · exact own_kp (h.ok y (hi y e)) k (hZ y (hi y e))
    · rw [List.mem_singleton.1 e]; exact World.ownsRow_nil _ _ _ _
  · intro y hy
    rcases List.mem_append.1 hy with e | e
    · exact (h.kn y (hi y e)).kept hP (fun _ c => c)
    · rw [List.mem_singleton.1 e]; exact ⟨rfl, fun i hi => absurd hi (Nat.not_lt_zero _)⟩
  · refine List.pairwise_append.2 ⟨p1, List.pairwise_singleton _ _, fun y hy z hz g hg c => ?_⟩
    rw [List.mem_singleton.1 hz] at c
    simp [Value.ownBlock] at c
  · intro y hy g hg
    rcases List.mem_append.1 hy with e | e
    · exact h.far y (hi y e) g hg
    · rw [List.mem_singleton.1 e] at hg
      simp [Value.ownBlock] at hg
  · exact fun g hg => ⟨(h.pf g hg).1, (h.pf g hg).2.1, Nat.lt_of_lt_of_le (h.pf g hg).2.2 k.size⟩
  · rw [el]; exact h.few
  · exact ndin_of (own_kp (h.ok x hx) k (hZ x hx)) ((h.kn x hx).kept hP (fun _ c => c)) (fun g c => Or.inl c) (fun g c => Or.inr c) hkx
theorem RelB.last {lv : List Lv} {s : BS} (h : RelB lv s) : ∃ ini x, lv = ini ++ [x] ∧ x.N = s.nodes ∧ ∀ y : Lv, RelB (ini ++ [y]) ⟨y.N, s.opn⟩ := by
  induction h with
  | one x => exact ⟨[], x, rfl, rfl, fun y => .one y⟩
  | more x r ns os o h hk ht hb hl hc hn ih =>
    obtain ⟨ini, z, e, e2, f⟩ := ih
    exact ⟨x :: ini, z, by rw [e]; rfl, e2, fun y => .more _ _ _ _ _ (f y) hk ht hb hl hc hn⟩
end Go.Proofs.YtibeiggedmabkaaDoor
