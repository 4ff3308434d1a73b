/-
  A list of numbers that grows in a variable which a loop's body keeps: what the body leaves alone.
-/
import Derived.Test.YtejlnodillnoaaaGreatDoorMem
import Derived.RangeFuncNested
import Derived.RangeFuncBound
import Derived.RangeFuncCalls
import Derived.RangeFuncLeaves
import Derived.Shelf.Abstract
import Derived.Shelf.RegionOpen
import Derived.OwnWalkIn
import Derived.TacticsInMore
import Derived.LoopNIn
import Derived.LoopIn
import Derived.Maps.AppendAt
import Derived.Test.YtejlnodillnoaaaGreatDoorWBk
import Derived.Test.YtejlnodillnoaaaGreatDoorNumI
import Derived.Deep.AppendLies
namespace Go.Proofs.YtejlnodillnoaaaGreatDoor
open Go.RowKit Go.Shelf
set_option linter.unusedVariables false

/-- the two blocks of a range over a function: the deferred calls at D, its record behind them -/
structure Bk (D : Nat) (r : Loop) (W : World) : Prop where
  dfr : W.heap[D]? = some (.deferred (some []))
  lp : W.heap[D + 1]? = some (.loop r)
theorem Bk.lt {D : Nat} {r : Loop} {W : World} (h : Bk D r W) : D + 1 < W.heap.size := (Array.getElem?_eq_some_iff.1 h.lp).1
theorem Bk.below {D : Nat} {r : Loop} {W W' : World} (h : Bk D r W) (hb : Below W.heap.size W W') : Bk D r W' := by
  have := h.lt
  exact ⟨(hb.block D (by omega)).trans h.dfr, (hb.block (D + 1) (by omega)).trans h.lp⟩
theorem Bk.put {D : Nat} {r : Loop} {W : World} (h : Bk D r W) (r' : Loop) : Bk D r' (W.putObj (D + 1) (.loop r')) :=
  ⟨(World.putObj_heap_other (by omega)).trans h.dfr, World.putObj_heap_same h.lt⟩

/-- a round that goes on: what it leaves -/
def Goes (D : Nat) (J : World → Prop) (Kp : World → World → Prop) (V : World) : Exit → Act → World → Prop
  | .normal, _, W => (∀ r, Bk D r V → Bk D r W) ∧ Kp V W ∧ J W
  | _, _, _ => False

variable {P : Program} {n : Nat}

theorem range_all {α : Type} {g : Operand} {ps : Array Tmp} {assign body : Code} {Q : Exit → Act → World → Prop} {a : Act} {w : World} {gf : Nat} {lb : Array Value}
    (hg : a.eval g = .func (.func gf) #[] lb) (eg : ∀ args w, (callFunc gf args).run P w = .ok (.enter gf args) w)
    (encs : α → Array Value) (hps : ∀ x, (encs x).size = ps.size)
    (J : List α → World → Prop) (Px : List α → α → World → Prop) (Kp : World → World → Prop) (Ax : List α → α → Act → World → Prop)
    (hJ : ∀ s W r r', Bk w.heap.size r W → J s W → J s (W.putObj (w.heap.size + 1) (.loop r')))
    (hA : ∀ s x a' W r r', Bk w.heap.size r W → Ax s x a' W → Ax s x a' (W.putObj (w.heap.size + 1) (.loop r')))
    (hKb : ∀ W r r', Bk w.heap.size r W → Kp W (W.putObj (w.heap.size + 1) (.loop r'))) (hKt : ∀ A B C, Kp A B → Kp B C → Kp A C)
    (hassign : ∀ s x W r (K : Act → World → Prop), Bk w.heap.size r W → J s W → Px s x W → (∀ a' W', Below W.heap.size W W' → Kp W W' → Ax s x a' W' → K a' W') →
      assign.wpIn (Fence.wide.inRound (w.heap.size + 1)) (n - 1 - 1) P (Exit.then K (fun _ _ _ => False)) { tmps := (ps.zip (encs x)).foldl (fun t (p, v) => t.setIfInBounds p v) a.tmps, defers := [] } W)
    (hbody : ∀ s x a' V r, Bk w.heap.size r V → Ax s x a' V → body.wpIn (Fence.wide.inRound (w.heap.size + 1)) (n - 1 - 1) P (Goes w.heap.size (J (s ++ [x])) Kp V) a' V)
    (hiter : ∀ r W1, Bk w.heap.size r W1 → W1 = (w.alloc (.deferred (some []))).alloc (.loop r) →
      (∀ s x W, Bk w.heap.size r W → J s W → Px s x W → YieldAt Fence.wide (n - 1 - 1) P (w.heap.size + 1) (encs x) W fun e W' => e = .returned (.bool true) ∧ Bk w.heap.size r W' ∧ J (s ++ [x]) W' ∧ Kp W W') →
      CallsIn Fence.wide (n - 1) P gf (#[.func (.yield (w.heap.size + 1)) #[] #[]] ++ lb) W1 fun e W' => (∃ v, e = .returned v) ∧ Bk w.heap.size r W' ∧
        ∀ r', Q .normal { a with defers := { target := .collected w.heap.size, args := #[] } :: a.defers } (W'.putObj (w.heap.size + 1) (.loop r'))) :
    (Code.rangeFunc g ps assign body).wpIn Fence.wide n P Q a w := by
  refine wpIn_rangeFunc ?_
  intro fn hfn
  have hl1 : ((w.alloc (.deferred (some []))).alloc (.loop { state := .ready, pending := none, fn, tmps := a.tmps, params := ps, assign, body, defers := w.heap.size })).heap[w.heap.size + 1]? = some (.loop { state := .ready, pending := none, fn, tmps := a.tmps, params := ps, assign, body, defers := w.heap.size }) := by
    have := World.alloc_heap_new (w.alloc (.deferred (some []))) (.loop { state := .ready, pending := none, fn, tmps := a.tmps, params := ps, assign, body, defers := w.heap.size })
    rwa [World.size_alloc] at this
  have hd1 : ((w.alloc (.deferred (some []))).alloc (.loop { state := .ready, pending := none, fn, tmps := a.tmps, params := ps, assign, body, defers := w.heap.size })).heap[w.heap.size]? = some (.deferred (some [])) :=
    (Below.heap_alloc _ _ _ (by simp)).trans (World.alloc_heap_new w _)
  obtain ⟨W1, hW1⟩ : ∃ W1, (w.alloc (.deferred (some []))).alloc (.loop { state := .ready, pending := none, fn, tmps := a.tmps, params := ps, assign, body, defers := w.heap.size }) = W1 := ⟨_, rfl⟩
  have hen := run_enterLoop_outer (P := P) (w := w) fn a.tmps ps assign body
  rw [hW1] at hen hl1 hd1
  refine ⟨w.heap.size + 1, [{ target := .collected w.heap.size, args := #[] }], W1, { target := .fn (.func gf) lb, args := #[.func (.yield (w.heap.size + 1)) #[] #[]] }, W1, gf,
    #[.func (.yield (w.heap.size + 1)) #[] #[]] ++ lb, W1, hen, ?_, fun _ _ => trivial, ?_, fun h => (by simp [Fence.wide] at h), ?_⟩
  · simp only [resolve, hg]
    simp [go_sem]
  · simp [invoke, go_sem, eg]
  · refine (hiter _ _ ⟨hd1, hl1⟩ hW1.symm ?_).mono ?_
    · intro s x W hk hj hp
      have hy := run_yield (P := P) (args := encs x) hk.lp (hps x)
      refine ⟨fn, _, assign, body, hy, roundIn_of_wpIn trivial (hassign s x W _ _ hk hj hp ?_)⟩
      intro a' Wa hb hka hax
      have hk2 := hk.below hb
      refine ⟨_, run_beginRound hk2.lp rfl, ?_⟩
      have hk3 := hk2.put { state := .busy, pending := none, fn, tmps := a.tmps, params := ps, assign, body, defers := w.heap.size }
      refine wpIn_mono (hbody s x a' _ _ hk3 (hA s x a' _ _ _ hk2 hax)) ?_
      rintro e a3 W3 hp3
      cases e with
      | normal =>
        obtain ⟨hbk, hkp, hj3⟩ := hp3
        have hk4 := hbk _ hk3
        exact ⟨_, _, run_endRound none hk4.lp, rfl, hk4.put _, hJ _ _ _ _ hk4 hj3, hKt _ _ _ hka (hKt _ _ _ (hKb _ _ _ hk2) (hKt _ _ _ hkp (hKb _ _ _ hk4)))⟩
      | ret => exact hp3.elim
      | exit id => exact hp3.elim
      | goto t => exact hp3.elim
      | panic ch => exact hp3.elim
      | outgrown => exact hp3.elim
    · rintro e W2 ⟨⟨v, rfl⟩, hk, hq⟩
      exact ⟨none, _, run_endLoop hk.lp (by simp), hq _⟩

/-- a number stays where a record is laid anew -/
theorem Seg.putLoop {W : World} {D : Nat} {r : Loop} {ao : Option Addr} {X n : Nat} (h : Seg W ao X n) (hk : Bk D r W) (r' : Loop) : Seg (W.putObj (D + 1) (.loop r')) ao X n := by
  refine ⟨h.1, fun hn => ?_⟩
  obtain ⟨b, off, e, hl, hc⟩ := h.2 hn
  refine ⟨b, off, e, by simpa using hl, fun i hi => ?_⟩
  have hb : b ≠ D + 1 := fun e => by
    have := hc i hi
    simp [World.cell?, e, hk.lp] at this
  rw [World.cell?_of_block (w := W) (World.putObj_heap_other hb)]
  exact hc i hi
theorem below_putLoop {W w : World} {D B : Nat} {r : Loop} (h : Below B w W) (hk : Bk D r W) (hB : B ≤ D + 1) (r' : Obj) : Below B w (W.putObj (D + 1) r') :=
  h.trans ⟨rfl, rfl, rfl, by simp, fun k hk => World.putObj_heap_other (by omega)⟩
/-- a block of cells stays -/
theorem cells_putLoop {W : World} {D k : Nat} {r : Loop} {cur : Array Value} {t : TypeId} {fz : Nat × Nat} (h : W.heap[k]? = some (.cells cur t fz)) (hk : Bk D r W) (r' : Loop) : (W.putObj (D + 1) (.loop r')).heap[k]? = some (.cells cur t fz) := by
  have hb : k ≠ D + 1 := fun e => by rw [e, hk.lp] at h; simp at h
  rw [World.putObj_heap_other hb]
  exact h
/-- behind the function's end: the block of the deferred calls is shut -/
theorem Seg.putDfr {W : World} {D : Nat} {r : Loop} {ao : Option Addr} {X n : Nat} (h : Seg W ao X n) (hk : Bk D r W) (o : Obj) : Seg (W.putObj D o) ao X n := by
  refine ⟨h.1, fun hn => ?_⟩
  obtain ⟨b, off, e, hl, hc⟩ := h.2 hn
  refine ⟨b, off, e, by simpa using hl, fun i hi => ?_⟩
  have hb : b ≠ D := fun e => by
    have := hc i hi
    simp [World.cell?, e, hk.dfr] at this
  rw [World.cell?_of_block (w := W) (World.putObj_heap_other hb)]
  exact hc i hi
theorem below_putDfr {W w : World} {D B : Nat} (h : Below B w W) (hB : B ≤ D) (o : Obj) : Below B w (W.putObj D o) :=
  h.trans ⟨rfl, rfl, rfl, by simp, fun k hk => World.putObj_heap_other (by omega)⟩
theorem cells_putDfr {W : World} {D k : Nat} {r : Loop} {cur : Array Value} {t : TypeId} {fz : Nat × Nat} (h : W.heap[k]? = some (.cells cur t fz)) (hk : Bk D r W) (o : Obj) : (W.putObj D o).heap[k]? = some (.cells cur t fz) := by
  have hb : k ≠ D := fun e => by rw [e, hk.dfr] at h; simp at h
  rw [World.putObj_heap_other hb]
  exact h
end Go.Proofs.YtejlnodillnoaaaGreatDoor

namespace Go.Proofs.YtejlnodillnoaaaGreatDoor
open Go.RowKit Go.Shelf
set_option linter.unusedVariables false
set_option linter.unusedSimpArgs false

/-- a whole number as it is handed on: the number, and where its limbs lie -/
def vI (x : Int × Option Addr) : Value := .agg #[.bool (ng x.1), .slice x.2 (ln (am x.1)) (ln (am x.1))]
def csI (x : Int × Option Addr) : List Value := [.bool (ng x.1), .slice x.2 (ln (am x.1)) (ln (am x.1))]
def cellsI : List (Int × Option Addr) → List Value
  | [] => []
  | x :: s => csI x ++ cellsI s
theorem cellsI_append (s t : List (Int × Option Addr)) : cellsI (s ++ t) = cellsI s ++ cellsI t := by
  induction s with
  | nil => rfl
  | cons x s ih => simp only [List.cons_append, cellsI, ih, List.append_assoc]
theorem cellsI_snoc (s : List (Int × Option Addr)) (x : Int × Option Addr) : cellsI (s ++ [x]) = cellsI s ++ csI x := by rw [cellsI_append]; simp [cellsI]
theorem cellsI_length (s : List (Int × Option Addr)) : (cellsI s).length = s.length * 2 := by
  induction s with
  | nil => rfl
  | cons x s ih => simp only [cellsI, csI, List.length_append, List.length_cons, List.length_nil, ih]; omega
theorem cellsI_at : ∀ (s : List (Int × Option Addr)) (i : Nat) (h : i < s.length), (cellsI s)[i * 2]? = some (.bool (ng s[i].1)) ∧ (cellsI s)[i * 2 + 1]? = some (.slice s[i].2 (ln (am s[i].1)) (ln (am s[i].1)))
  | [], i, h => absurd h (by simp)
  | x :: s, 0, h => ⟨rfl, rfl⟩
  | x :: s, i + 1, h => by
    have := cellsI_at s i (by simpa using h)
    simp only [cellsI, csI]
    rw [List.getElem?_append_right (by simp; omega), List.getElem?_append_right (by simp; omega)]
    simp only [List.length_cons, List.length_nil, List.getElem_cons_succ]
    rw [show (i + 1) * 2 - (0 + 1 + 1) = i * 2 by omega, show (i + 1) * 2 + 1 - (0 + 1 + 1) = i * 2 + 1 by omega]
    exact this
theorem csI_one (x : Int × Option Addr) : ∀ u ∈ csI x, u.oneCell' = true := by
  intro u hu
  simp only [csI, List.mem_cons, List.not_mem_nil, or_false] at hu
  rcases hu with rfl | rfl <;> rfl

/-- the row's block, as the variable at B tells it -/
def Out (B : Nat) (W : World) (k : Nat) : Prop := ∃ v, W.cell? ⟨B, 0, none⟩ = some v ∧ v.ownBlock = some k
theorem Out.below {B k : Nat} {W W' : World} (hb : Below W.heap.size W W') (hB : B < W.heap.size) : Out B W' k ↔ Out B W k := by
  unfold Out
  rw [hb.cell (p := ⟨B, 0, none⟩) hB]
theorem Out.put {B k D : Nat} {W : World} {r : Loop} (hk : Bk D r W) (r' : Loop) (h : Out B (W.putObj (D + 1) (.loop r')) k) : Out B W k := by
  obtain ⟨v, hv, hn⟩ := h
  by_cases e : B = D + 1
  · subst e
    simp [World.cell?, World.putObj_heap_same hk.lt] at hv
  · rw [World.cell?_of_block (w := W) (World.putObj_heap_other e)] at hv
    exact ⟨v, hv, hn⟩

/-- what a round keeps: all cells but the variable's and the row's; the row stays, or is a new one -/
structure Kpo (B : Nat) (W W' : World) : Prop where
  size : W.heap.size ≤ W'.heap.size
  same : ∀ k cur t fz, W.heap[k]? = some (.cells cur t fz) → k ≠ B → ¬ Out B W k → W'.heap[k]? = some (.cells cur t fz)
  out : ∀ k, Out B W' k → Out B W k ∨ W.heap.size ≤ k
theorem Kpo.trans {B : Nat} {W W1 W2 : World} (h : Kpo B W W1) (k : Kpo B W1 W2) : Kpo B W W2 := by
  refine ⟨Nat.le_trans h.size k.size, fun i cur t fz hi hB ho => ?_, fun i hi => ?_⟩
  · have hlt := (Array.getElem?_eq_some_iff.1 hi).1
    refine k.same i cur t fz (h.same i cur t fz hi hB ho) hB fun hn => ?_
    rcases h.out i hn with h1 | h1
    · exact ho h1
    · omega
  · rcases k.out i hi with h1 | h1
    · exact h.out i h1
    · exact .inr (Nat.le_trans h.size h1)
theorem Kpo.put {B D : Nat} {W : World} {r : Loop} (hk : Bk D r W) (r' : Loop) : Kpo B W (W.putObj (D + 1) (.loop r')) :=
  ⟨by simp, fun k cur t fz h _ _ => cells_putLoop h hk r', fun k h => .inl (h.put hk r')⟩
theorem Kpo.below {B : Nat} {W W' : World} (h : Below W.heap.size W W') (hB : B < W.heap.size) : Kpo B W W' :=
  ⟨h.size, fun k cur t fz hk _ _ => (h.block k (Array.getElem?_eq_some_iff.1 hk).1).trans hk, fun k hk => .inl ((Out.below h hB).1 hk)⟩

/-- a number that the row's growing leaves alone -/
structure SegC (B : Nat) (W : World) (ao : Option Addr) (X n : Nat) : Prop where
  seg : Seg W ao X n
  clr : 0 < n → ∀ b off, ao = some ⟨b, off, none⟩ → b ≠ B ∧ ¬ Out B W b
theorem SegC.kpo {B : Nat} {W W' : World} {ao : Option Addr} {X n : Nat} (h : SegC B W ao X n) (k : Kpo B W W') : SegC B W' ao X n := by
  refine ⟨⟨h.seg.1, fun hn => ?_⟩, fun hn b off e => ?_⟩
  · obtain ⟨b, off, rfl, hl, hc⟩ := h.seg.2 hn
    obtain ⟨hB, ho⟩ := h.clr hn b off rfl
    refine ⟨b, off, rfl, Nat.lt_of_lt_of_le hl k.size, fun i hi => ?_⟩
    have h1 := hc i hi
    have hbl : W'.heap[b]? = W.heap[b]? := by
      have h2 := h1
      simp only [World.cell?] at h2
      cases hh : W.heap[b]? with
      | none => simp [hh] at h2
      | some o =>
        cases o with
        | cells cur t fz => exact k.same b cur t fz hh hB ho
        | _ => simp [hh] at h2
    rw [World.cell?_of_block (w := W) hbl]
    exact h1
  · obtain ⟨hB, ho⟩ := h.clr hn b off e
    refine ⟨hB, fun h1 => ?_⟩
    obtain ⟨b', off', e', hl, _⟩ := h.seg.2 hn
    rw [e] at e'
    simp only [Option.some.injEq, Addr.mk.injEq, and_true] at e'
    rcases k.out b h1 with h2 | h2
    · exact ho h2
    · omega
theorem SegC.below {B : Nat} {W W' : World} {ao : Option Addr} {X n : Nat} (h : SegC B W ao X n) (hb : Below W.heap.size W W') (hB : B < W.heap.size) : SegC B W' ao X n := h.kpo (Kpo.below hb hB)
/-- one that is new -/
theorem SegC.of_new {B : Nat} {W W' : World} {ao : Option Addr} {X n : Nat} (h : New W W' ao X n) (hB : B < W.heap.size) (ho : ∀ k, Out B W k → k < W.heap.size) : SegC B W' ao X n := by
  refine ⟨h.seg, fun hn b off e => ?_⟩
  obtain ⟨b', off', e', hl, _⟩ := h.fresh hn
  rw [e] at e'
  simp only [Option.some.injEq, Addr.mk.injEq, and_true] at e'
  refine ⟨by omega, fun h1 => ?_⟩
  have := ho b ((Out.below h.below hB).1 h1)
  omega

/-- a block of the iterator's own -/
structure BoxC (B : Nat) (W : World) (c : Nat) (cur : Array Value) (t : TypeId) : Prop where
  box : W.heap[c]? = some (.cells cur t (0, 0))
  ne : c ≠ B
  clr : ¬ Out B W c
theorem BoxC.lt {B : Nat} {W : World} {c : Nat} {cur : Array Value} {t : TypeId} (h : BoxC B W c cur t) : c < W.heap.size := (Array.getElem?_eq_some_iff.1 h.box).1
theorem BoxC.kpo {B : Nat} {W W' : World} {c : Nat} {cur : Array Value} {t : TypeId} (h : BoxC B W c cur t) (k : Kpo B W W') : BoxC B W' c cur t := by
  refine ⟨k.same c cur t _ h.box h.ne h.clr, h.ne, fun h1 => ?_⟩
  have := h.lt
  rcases k.out c h1 with h2 | h2
  · exact h.clr h2
  · omega
theorem BoxC.below {B : Nat} {W W' : World} {c : Nat} {cur : Array Value} {t : TypeId} (h : BoxC B W c cur t) (hb : Below W.heap.size W W') (hB : B < W.heap.size) : BoxC B W' c cur t := h.kpo (Kpo.below hb hB)
theorem BoxC.new {B : Nat} (W : World) (cur : Array Value) (t : TypeId) (hB : B < W.heap.size) (ho : ∀ k, Out B W k → k < W.heap.size) : BoxC B (W.alloc (.cells cur t)) W.heap.size cur t := by
  refine ⟨World.alloc_heap_new W _, by omega, fun h1 => ?_⟩
  have := ho _ ((Out.below ((Below.refl W.heap.size W).alloc (Nat.le_refl _) _) hB).1 h1)
  omega
theorem BoxC.cell {B : Nat} {W : World} {c : Nat} {cur : Array Value} {t : TypeId} (h : BoxC B W c cur t) (o : Nat) : W.cell? ⟨c, o, none⟩ = cur[o]? := by simp [World.cell?, h.box]
theorem BoxC.frozen {B : Nat} {W : World} {c : Nat} {cur : Array Value} {t : TypeId} (h : BoxC B W c cur t) (o : Nat) : W.frozen? ⟨c, o, none⟩ = false := frozen_of_row W c o cur t h.box

/-- the loop's state: the variable at B holds a list of these numbers -/
structure JI (B n₀ : Nat) (w0 : World) (s : List (Int × Option Addr)) (W : World) : Prop where
  ex : ∃ v, Boxed W B 76 v ∧ W.ownsRow n₀ 25 2 v s.length (cellsI s)
  num : ∀ x ∈ s, SegC B W x.2 (am x.1) (ln (am x.1))
  bel : Below n₀ w0 W
  le : n₀ ≤ B
theorem JI.out {B n₀ : Nat} {w0 W : World} {s : List (Int × Option Addr)} (h : JI B n₀ w0 s W) : ∀ k, Out B W k → k < W.heap.size := by
  obtain ⟨v, hv, hr⟩ := h.ex
  rintro k ⟨v', hc, hn⟩
  rw [hv.cell] at hc
  obtain rfl := Option.some.inj hc
  exact (hr.lt k hn).2
theorem JI.lt {B n₀ : Nat} {w0 W : World} {s : List (Int × Option Addr)} (h : JI B n₀ w0 s W) : B < W.heap.size := by
  obtain ⟨v, hv, hr⟩ := h.ex
  exact hv.lt
theorem ownsRow_keep {w w' : World} {base : Nat} {e : TypeId} {size : Nat} {v : Value} {n : Nat} {xs : List Value} (h : w.ownsRow base e size v n xs) (hb : ∀ (k : Nat) cur t fz, w.heap[k]? = some (Obj.cells cur t fz) → w'.heap[k]? = some (Obj.cells cur t fz)) : w'.ownsRow base e size v n xs := by
  refine ⟨h.1, ?_⟩
  rcases h.2 with h0 | ⟨g, cap, cur, hv, hg, hc, rest⟩
  · exact Or.inl h0
  · exact Or.inr ⟨g, cap, cur, hv, hg, hb g _ _ _ hc, rest⟩
theorem JI.put {B n₀ D : Nat} {w0 W : World} {s : List (Int × Option Addr)} {r : Loop} (h : JI B n₀ w0 s W) (hk : Bk D r W) (hD : n₀ ≤ D + 1) (r' : Loop) : JI B n₀ w0 s (W.putObj (D + 1) (.loop r')) := by
  obtain ⟨v, hv, hr⟩ := h.ex
  exact ⟨⟨v, cells_putLoop hv hk r', ownsRow_keep hr fun k cur t fz hh => cells_putLoop hh hk r'⟩, fun x hx => (h.num x hx).kpo (Kpo.put hk r'), below_putLoop h.bel hk hD _, h.le⟩
theorem JI.below {B n₀ : Nat} {w0 W W' : World} {s : List (Int × Option Addr)} (h : JI B n₀ w0 s W) (hb : Below W.heap.size W W') : JI B n₀ w0 s W' := by
  obtain ⟨v, hv, hr⟩ := h.ex
  have hl := h.lt
  refine ⟨⟨v, (hb.block B hl).trans hv, ownsRow_keep hr fun k cur t fz hh => (hb.block k (Array.getElem?_eq_some_iff.1 hh).1).trans hh⟩, fun x hx => (h.num x hx).below hb hl, h.bel.trans (hb.mono ?_), h.le⟩
  have := h.le
  omega

/-- append in a round: where the row lies behind it -/
theorem wpListIn_append_liesI {F : Fence} {n' : Nat} {P : Program} (w : World) {ops : Array Oper} {rest : List Oper} {o : Oper} {a : Act} {Q : Exit → Act → World → Prop} (hgd : o.guard = none) (s x : Operand) (t : TypeId)
    (ho : o.op = .call { callee := .builtin .append, args := #[s, x], argTypes := #[t, t] })
    (base : Nat) (e : TypeId) (i : TypeInfo) (z : Value) (size bytes : Nat) (ht : P.underlying t = some (.slice e)) (hi : P.info? e = some i) (hz : i.zero = some z)
    (hsize : i.size = size) (hby : i.bytes = bytes) (hzs : z.cells.size = size) (hsz : 0 < size)
    (v : Value) (n : Nat) (xs : List Value) (hs : a.eval s = v) (hown : w.ownsRow base e size v n xs)
    (ad : Addr) (m c : Nat) (news : List Value) (hx : a.eval x = .slice (some ad) m c) (hl : news.length = m * size) (hnews : ∀ j u, news[j]? = some u → w.cell? (ad.add j) = some u) (h1 : ∀ u ∈ news, u.oneCell' = true)
    (hm : 0 < m) (h63 : n + m ≤ maxLen) (hbytes : (n + m) * bytes ≤ 140737488355328) (hbase : base ≤ w.heap.size) (H : Nat) (hH : w.heap.size = H)
    (h : ∀ g cap w', w'.ownsRow base e size (.slice (some ⟨g, 0, none⟩) (n + m) cap) (n + m) (xs ++ news) → w.grownBy w' v.ownBlock → (v.ownBlock = some g ∨ g = H) → g < w'.heap.size → wpListIn F n' P ops Q rest (a.put o.dst (.slice (some ⟨g, 0, none⟩) (n + m) cap)) w') : wpListIn F n' P ops Q (o :: rest) a w := by
  obtain ⟨g, cap, w', hr, h2, h3, h4, h5⟩ := run_append_lies (P := P) w t o.type base e i z size bytes ht hi hz hsize hby hzs hsz v n xs hown ad m c news hl hnews h1 hm h63 hbytes hbase H hH
  refine wpListIn_plain hgd fun K hK => ?_
  unfold Oper.wpIn
  refine ⟨?_, ?_⟩
  · simp [Oper.about, ho, resolve, Target.leads, Sem.run_pure]
  · rw [Oper.semAt_plain F _ _ (by rw [ho]; intro c hc'; cases hc')]
    simp [execOp, ho, resolve, invoke, builtin, hs, hx, hr, Result.andThen]
    exact hK _ _ (h g cap w' h2 h3 h4 h5)

/-- behind an append and the store of its answer -/
theorem JI.appended {B n₀ : Nat} {w0 V w1 : World} {s : List (Int × Option Addr)} {x : Int × Option Addr} {v : Value} {tmp : Obj} {g cap : Nat}
    (h : JI B n₀ w0 s V) (hv : Boxed V B 76 v) (hrow : V.ownsRow n₀ 25 2 v s.length (cellsI s)) (hx : SegC B V x.2 (am x.1) (ln (am x.1)))
    (hown : w1.ownsRow n₀ 25 2 (.slice (some ⟨g, 0, none⟩) (s.length + 1) cap) (s.length + 1) (cellsI s ++ csI x)) (hgrow : (V.alloc tmp).grownBy w1 v.ownBlock) (hg : v.ownBlock = some g ∨ g = V.heap.size + 1) :
    Boxed w1 B 76 v ∧ JI B n₀ w0 (s ++ [x]) (w1.setCell ⟨B, 0, none⟩ (.slice (some ⟨g, 0, none⟩) (s.length + 1) cap)) ∧ Kpo B V (w1.setCell ⟨B, 0, none⟩ (.slice (some ⟨g, 0, none⟩) (s.length + 1) cap)) ∧
      KeepsOthers V (w1.setCell ⟨B, 0, none⟩ (.slice (some ⟨g, 0, none⟩) (s.length + 1) cap)) := by
  have hsz := hgrow.size
  simp only [World.size_alloc] at hsz
  obtain ⟨hv1, hv2, hr2, hk2, hb2⟩ := hv.appended (by decide) hrow (by have := h.le; have := h.lt; omega) h.le hown hgrow
  have hK : Kpo B V (w1.setCell ⟨B, 0, none⟩ (.slice (some ⟨g, 0, none⟩) (s.length + 1) cap)) := by
    refine ⟨by simp [World.setCell]; omega, fun k cur t fz hk hB ho => ?_, fun k hk => ?_⟩
    · have hlt := (Array.getElem?_eq_some_iff.1 hk).1
      rw [Below.heap_setCell _ _ _ _ hB, hgrow.block k (by simp; omega) (fun e => ho ⟨v, hv.cell, e.symm⟩), Below.heap_alloc _ _ _ hlt]
      exact hk
    · obtain ⟨u, hu, hn⟩ := hk
      rw [hv2.cell] at hu
      obtain rfl := Option.some.inj hu
      obtain rfl : g = k := by simpa [Value.ownBlock] using hn
      rcases hg with hg | hg
      · exact .inl ⟨v, hv.cell, hg⟩
      · exact .inr (by omega)
  refine ⟨hv1, ⟨⟨_, hv2, ?_⟩, fun y hy => ?_, h.bel.trans hb2, h.le⟩, hK, hk2⟩
  · rw [cellsI_snoc, List.length_append]
    exact hr2
  · rcases List.mem_append.1 hy with h1 | h1
    · exact (h.num y h1).kpo hK
    · obtain rfl := List.mem_singleton.1 h1
      exact hx.kpo hK
theorem Bk.others {D : Nat} {r : Loop} {V W : World} (h : Bk D r V) (k : KeepsOthers V W) : Bk D r W := ⟨k.same _ _ h.dfr rfl, k.same _ _ h.lp rfl⟩

theorem Bk.ch {D c : Nat} {r : Loop} {W W' : World} {cur : Array Value} {t : TypeId} {fz : Nat × Nat} (h : Bk D r W) (k : Ch c W W') (hc : W.heap[c]? = some (.cells cur t fz)) : Bk D r W' := by
  refine ⟨(k.other D fun e => ?_).trans h.dfr, (k.other (D + 1) fun e => ?_).trans h.lp⟩
  · have := h.dfr
    rw [e, hc] at this
    simp at this
  · have := h.lp
    rw [e, hc] at this
    simp at this
theorem Out.ch {B c k : Nat} {W W' : World} (h : Ch c W W') (hB : c ≠ B) : Out B W' k ↔ Out B W k := by
  unfold Out
  rw [World.cell?_of_block (w := W) (a := ⟨B, 0, none⟩) (h.other B (Ne.symm hB))]
theorem SegC.ch {B c : Nat} {W W' : World} {ao : Option Addr} {X n : Nat} (h : SegC B W ao X n) (k : Ch c W W') (hB : c ≠ B) (hno : ∀ o i, W.cell? ⟨c, o, none⟩ ≠ some (.int .u32 i)) : SegC B W' ao X n := by
  refine ⟨⟨h.seg.1, fun hn => ?_⟩, fun hn b off e => ?_⟩
  · obtain ⟨b, off, e, hl, hc⟩ := h.seg.2 hn
    refine ⟨b, off, e, by rw [k.size]; exact hl, fun i hi => ?_⟩
    have h1 := hc i hi
    rw [World.cell?_of_block (w := W) (a := ⟨b, off + i, none⟩) (k.other b fun e => hno (off + i) _ (by rw [← e]; exact h1))]
    exact h1
  · obtain ⟨h1, h2⟩ := h.clr hn b off e
    exact ⟨h1, fun h3 => h2 ((Out.ch k hB).1 h3)⟩
theorem JI.ch {B n₀ c : Nat} {w0 W W' : World} {s : List (Int × Option Addr)} (h : JI B n₀ w0 s W) (k : Ch c W W') (hB : c ≠ B) (ho : ¬ Out B W c) (hn : n₀ ≤ c) (hno : ∀ o i, W.cell? ⟨c, o, none⟩ ≠ some (.int .u32 i)) : JI B n₀ w0 s W' := by
  obtain ⟨v, hv, hr⟩ := h.ex
  refine ⟨⟨v, (k.other B (Ne.symm hB)).trans hv, hr.1, ?_⟩, fun x hx => (h.num x hx).ch k hB hno, h.bel.trans (k.below hn), h.le⟩
  rcases hr.2 with h0 | ⟨g, cap, cur, hv', hg, hc, rest⟩
  · exact Or.inl h0
  · refine Or.inr ⟨g, cap, cur, hv', hg, (k.other g fun e => ho ⟨v, hv.cell, ?_⟩).trans hc, rest⟩
    subst hv'
    simp [Value.ownBlock, e]
end Go.Proofs.YtejlnodillnoaaaGreatDoor
