/-
  A range over a function whose rounds all go on: what a round is handed may be told of (a fact of memory), as the one iterator's own walk is at hand.
-/
import Derived.Test.YtabchggnalbbcaaMem
import Derived.RangeFuncNested
import Derived.RangeFuncBound
import Derived.RangeFuncCalls
import Derived.RangeFuncLeaves
import Derived.Shelf.Abstract
import Derived.Shelf.RegionOpen
import Derived.OwnWalkIn
import Derived.TacticsInMore
import Derived.LoopNIn
import Derived.LoopIn
import Derived.Maps.AppendAt
namespace Go.Proofs.Ytabchggnalbbcaa
open Go.RowKit Go.Shelf
set_option linter.unusedVariables false

/-- the two blocks of a range over a function: the deferred calls at D, its record behind them -/
structure Bk (D : Nat) (r : Loop) (W : World) : Prop where
  dfr : W.heap[D]? = some (.deferred (some []))
  lp : W.heap[D + 1]? = some (.loop r)
theorem Bk.lt {D : Nat} {r : Loop} {W : World} (h : Bk D r W) : D + 1 < W.heap.size := (Array.getElem?_eq_some_iff.1 h.lp).1
theorem Bk.below {D : Nat} {r : Loop} {W W' : World} (h : Bk D r W) (hb : Below W.heap.size W W') : Bk D r W' := by
  have := h.lt
  exact ⟨(hb.block D (by omega)).trans h.dfr, (hb.block (D + 1) (by omega)).trans h.lp⟩
theorem Bk.put {D : Nat} {r : Loop} {W : World} (h : Bk D r W) (r' : Loop) : Bk D r' (W.putObj (D + 1) (.loop r')) :=
  ⟨(World.putObj_heap_other (by omega)).trans h.dfr, World.putObj_heap_same h.lt⟩

/-- a round that goes on: what it leaves -/
def Goes (D : Nat) (J : World → Prop) (Kp : World → World → Prop) (V : World) : Exit → Act → World → Prop
  | .normal, _, W => (∀ r, Bk D r V → Bk D r W) ∧ Kp V W ∧ J W
  | _, _, _ => False

variable {P : Program} {n : Nat}

theorem range_all {α : Type} {g : Operand} {ps : Array Tmp} {assign body : Code} {Q : Exit → Act → World → Prop} {a : Act} {w : World} {gf : Nat} {lb : Array Value}
    (hg : a.eval g = .func (.func gf) #[] lb) (eg : ∀ args w, (callFunc gf args).run P w = .ok (.enter gf args) w)
    (encs : α → Array Value) (hps : ∀ x, (encs x).size = ps.size)
    (J : List α → World → Prop) (Px : List α → α → World → Prop) (Kp : World → World → Prop) (Ax : List α → α → Act → World → Prop)
    (hJ : ∀ s W r r', Bk w.heap.size r W → J s W → J s (W.putObj (w.heap.size + 1) (.loop r')))
    (hA : ∀ s x a' W r r', Bk w.heap.size r W → Ax s x a' W → Ax s x a' (W.putObj (w.heap.size + 1) (.loop r')))
    (hKb : ∀ W r r', Bk w.heap.size r W → Kp W (W.putObj (w.heap.size + 1) (.loop r'))) (hKt : ∀ A B C, Kp A B → Kp B C → Kp A C)
    (hassign : ∀ s x W r (K : Act → World → Prop), Bk w.heap.size r W → J s W → Px s x W → (∀ a' W', Below W.heap.size W W' → Kp W W' → Ax s x a' W' → K a' W') →
      assign.wpIn (Fence.wide.inRound (w.heap.size + 1)) (n - 1 - 1) P (Exit.then K (fun _ _ _ => False)) { tmps := (ps.zip (encs x)).foldl (fun t (p, v) => t.setIfInBounds p v) a.tmps, defers := [] } W)
    (hbody : ∀ s x a' V r, Bk w.heap.size r V → Ax s x a' V → body.wpIn (Fence.wide.inRound (w.heap.size + 1)) (n - 1 - 1) P (Goes w.heap.size (J (s ++ [x])) Kp V) a' V)
    (hiter : ∀ r W1, Bk w.heap.size r W1 → W1 = (w.alloc (.deferred (some []))).alloc (.loop r) →
      (∀ s x W, Bk w.heap.size r W → J s W → Px s x W → YieldAt Fence.wide (n - 1 - 1) P (w.heap.size + 1) (encs x) W fun e W' => e = .returned (.bool true) ∧ Bk w.heap.size r W' ∧ J (s ++ [x]) W' ∧ Kp W W') →
      CallsIn Fence.wide (n - 1) P gf (#[.func (.yield (w.heap.size + 1)) #[] #[]] ++ lb) W1 fun e W' => (∃ v, e = .returned v) ∧ Bk w.heap.size r W' ∧
        ∀ r', Q .normal { a with defers := { target := .collected w.heap.size, args := #[] } :: a.defers } (W'.putObj (w.heap.size + 1) (.loop r'))) :
    (Code.rangeFunc g ps assign body).wpIn Fence.wide n P Q a w := by
  refine wpIn_rangeFunc ?_
  intro fn hfn
  have hl1 : ((w.alloc (.deferred (some []))).alloc (.loop { state := .ready, pending := none, fn, tmps := a.tmps, params := ps, assign, body, defers := w.heap.size })).heap[w.heap.size + 1]? = some (.loop { state := .ready, pending := none, fn, tmps := a.tmps, params := ps, assign, body, defers := w.heap.size }) := by
    have := World.alloc_heap_new (w.alloc (.deferred (some []))) (.loop { state := .ready, pending := none, fn, tmps := a.tmps, params := ps, assign, body, defers := w.heap.size })
    rwa [World.size_alloc] at this
  have hd1 : ((w.alloc (.deferred (some []))).alloc (.loop { state := .ready, pending := none, fn, tmps := a.tmps, params := ps, assign, body, defers := w.heap.size })).heap[w.heap.size]? = some (.deferred (some [])) :=
    (Below.heap_alloc _ _ _ (by simp)).trans (World.alloc_heap_new w _)
  obtain ⟨W1, hW1⟩ : ∃ W1, (w.alloc (.deferred (some []))).alloc (.loop { state := .ready, pending := none, fn, tmps := a.tmps, params := ps, assign, body, defers := w.heap.size }) = W1 := ⟨_, rfl⟩
  have hen := run_enterLoop_outer (P := P) (w := w) fn a.tmps ps assign body
  rw [hW1] at hen hl1 hd1
  refine ⟨w.heap.size + 1, [{ target := .collected w.heap.size, args := #[] }], W1, { target := .fn (.func gf) lb, args := #[.func (.yield (w.heap.size + 1)) #[] #[]] }, W1, gf,
    #[.func (.yield (w.heap.size + 1)) #[] #[]] ++ lb, W1, hen, ?_, fun _ _ => trivial, ?_, fun h => (by simp [Fence.wide] at h), ?_⟩
  · simp only [resolve, hg]
    simp [go_sem]
  · simp [invoke, go_sem, eg]
  · refine (hiter _ _ ⟨hd1, hl1⟩ hW1.symm ?_).mono ?_
    · intro s x W hk hj hp
      have hy := run_yield (P := P) (args := encs x) hk.lp (hps x)
      refine ⟨fn, _, assign, body, hy, roundIn_of_wpIn trivial (hassign s x W _ _ hk hj hp ?_)⟩
      intro a' Wa hb hka hax
      have hk2 := hk.below hb
      refine ⟨_, run_beginRound hk2.lp rfl, ?_⟩
      have hk3 := hk2.put { state := .busy, pending := none, fn, tmps := a.tmps, params := ps, assign, body, defers := w.heap.size }
      refine wpIn_mono (hbody s x a' _ _ hk3 (hA s x a' _ _ _ hk2 hax)) ?_
      rintro e a3 W3 hp3
      cases e with
      | normal =>
        obtain ⟨hbk, hkp, hj3⟩ := hp3
        have hk4 := hbk _ hk3
        exact ⟨_, _, run_endRound none hk4.lp, rfl, hk4.put _, hJ _ _ _ _ hk4 hj3, hKt _ _ _ hka (hKt _ _ _ (hKb _ _ _ hk2) (hKt _ _ _ hkp (hKb _ _ _ hk4)))⟩
      | ret => exact hp3.elim
      | exit id => exact hp3.elim
      | goto t => exact hp3.elim
      | panic ch => exact hp3.elim
      | outgrown => exact hp3.elim
    · rintro e W2 ⟨⟨v, rfl⟩, hk, hq⟩
      exact ⟨none, _, run_endLoop hk.lp (by simp), hq _⟩

/-- a number stays where a record is laid anew -/
theorem Seg.putLoop {W : World} {D : Nat} {r : Loop} {ao : Option Addr} {X n : Nat} (h : Seg W ao X n) (hk : Bk D r W) (r' : Loop) : Seg (W.putObj (D + 1) (.loop r')) ao X n := by
  refine ⟨h.1, fun hn => ?_⟩
  obtain ⟨b, off, e, hl, hc⟩ := h.2 hn
  refine ⟨b, off, e, by simpa using hl, fun i hi => ?_⟩
  have hb : b ≠ D + 1 := fun e => by
    have := hc i hi
    simp [World.cell?, e, hk.lp] at this
  rw [World.cell?_of_block (w := W) (World.putObj_heap_other hb)]
  exact hc i hi
theorem below_putLoop {W w : World} {D B : Nat} {r : Loop} (h : Below B w W) (hk : Bk D r W) (hB : B ≤ D + 1) (r' : Obj) : Below B w (W.putObj (D + 1) r') :=
  h.trans ⟨rfl, rfl, rfl, by simp, fun k hk => World.putObj_heap_other (by omega)⟩
/-- a block of cells stays -/
theorem cells_putLoop {W : World} {D k : Nat} {r : Loop} {cur : Array Value} {t : TypeId} {fz : Nat × Nat} (h : W.heap[k]? = some (.cells cur t fz)) (hk : Bk D r W) (r' : Loop) : (W.putObj (D + 1) (.loop r')).heap[k]? = some (.cells cur t fz) := by
  have hb : k ≠ D + 1 := fun e => by rw [e, hk.lp] at h; simp at h
  rw [World.putObj_heap_other hb]
  exact h
/-- behind the function's end: the block of the deferred calls is shut -/
theorem Seg.putDfr {W : World} {D : Nat} {r : Loop} {ao : Option Addr} {X n : Nat} (h : Seg W ao X n) (hk : Bk D r W) (o : Obj) : Seg (W.putObj D o) ao X n := by
  refine ⟨h.1, fun hn => ?_⟩
  obtain ⟨b, off, e, hl, hc⟩ := h.2 hn
  refine ⟨b, off, e, by simpa using hl, fun i hi => ?_⟩
  have hb : b ≠ D := fun e => by
    have := hc i hi
    simp [World.cell?, e, hk.dfr] at this
  rw [World.cell?_of_block (w := W) (World.putObj_heap_other hb)]
  exact hc i hi
theorem below_putDfr {W w : World} {D B : Nat} (h : Below B w W) (hB : B ≤ D) (o : Obj) : Below B w (W.putObj D o) :=
  h.trans ⟨rfl, rfl, rfl, by simp, fun k hk => World.putObj_heap_other (by omega)⟩
theorem cells_putDfr {W : World} {D k : Nat} {r : Loop} {cur : Array Value} {t : TypeId} {fz : Nat × Nat} (h : W.heap[k]? = some (.cells cur t fz)) (hk : Bk D r W) (o : Obj) : (W.putObj D o).heap[k]? = some (.cells cur t fz) := by
  have hb : k ≠ D := fun e => by rw [e, hk.dfr] at h; simp at h
  rw [World.putObj_heap_other hb]
  exact h
end Go.Proofs.Ytabchggnalbbcaa
