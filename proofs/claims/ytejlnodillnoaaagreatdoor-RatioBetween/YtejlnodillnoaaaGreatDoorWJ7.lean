import Derived.Test.YtejlnodillnoaaaGreatDoorMem
import Derived.RangeFuncNested
import Derived.RangeFuncBound
import Derived.RangeFuncCalls
import Derived.RangeFuncLeaves
import Derived.Shelf.Abstract
import Derived.Shelf.RegionOpen
import Derived.OwnWalkIn
import Derived.TacticsInMore
import Derived.LoopNIn
import Derived.LoopIn
import Derived.Maps.AppendAt
import Derived.Test.YtejlnodillnoaaaGreatDoorWBk
import Derived.Test.YtejlnodillnoaaaGreatDoorNumI
import Derived.Deep.AppendLies
import Derived.Test.YtejlnodillnoaaaGreatDoorWI3
import Derived.Test.YtejlnodillnoaaaGreatDoorWI2
import Derived.Test.YtejlnodillnoaaaGreatDoorWQ5
import Derived.Test.YtejlnodillnoaaaGreatDoorNumZ
set_option linter.unusedSimpArgs false
namespace Go.Proofs.YtejlnodillnoaaaGreatDoor
open Go.RowKit Go.Shelf
set_option linter.unusedVariables false
structure Bk (D : Nat) (r : Loop) (W : World) : Prop where
  dfr : W.heap[D]? = some (.deferred (some []))
  lp : W.heap[D + 1]? = some (.loop r)
theorem Bk.lt {D : Nat} {r : Loop} {W : World} (h : Bk D r W) : D + 1 < W.heap.size := (Array.getElem?_eq_some_iff.1 h.lp).1
theorem Bk.below {D : Nat} {r : Loop} {W W' : World} (h : Bk D r W) (hb : Below W.heap.size W W') : Bk D r W' := by
  have := h.lt
  exact ⟨(hb.block D (by omega)).trans h.dfr, (hb.block (D + 1) (by omega)).trans h.lp⟩
theorem Bk.put {D : Nat} {r : Loop} {W : World} (h : Bk D r W) (r' : Loop) : Bk D r' (W.putObj (D + 1) (.loop r')) :=
  ⟨(World.putObj_heap_other (by omega)).trans h.dfr, World.putObj_heap_same h.lt⟩
def Goes (D : Nat) (J : World → Prop) (Kp : World → World → Prop) (V : World) : Exit → Act → World → Prop
  | .normal, _, W => (∀ r, Bk D r V → Bk D r W) ∧ Kp V W ∧ J W
  | _, _, _ => False
variable {P : Program} {n : Nat}
theorem range_all {α : Type} {g : Operand} {ps : Array Tmp} {assign body : Code} {Q : Exit → Act → World → Prop} {a : Act} {w : World} {gf : Nat} {lb : Array Value}
    (hg : a.eval g = .func (.func gf) #[] lb) (eg : ∀ args w, (callFunc gf args).run P w = .ok (.enter gf args) w)
    (encs : α → Array Value) (hps : ∀ x, (encs x).size = ps.size)
    (J : List α → World → Prop) (Px : List α → α → World → Prop) (Kp : World → World → Prop) (Ax : List α → α → Act → World → Prop)
    (hJ : ∀ s W r r', Bk w.heap.size r W → J s W → J s (W.putObj (w.heap.size + 1) (.loop r')))
    (hA : ∀ s x a' W r r', Bk w.heap.size r W → Ax s x a' W → Ax s x a' (W.putObj (w.heap.size + 1) (.loop r')))
    (hKb : ∀ W r r', Bk w.heap.size r W → Kp W (W.putObj (w.heap.size + 1) (.loop r'))) (hKt : ∀ A B C, Kp A B → Kp B C → Kp A C)
    (hassign : ∀ s x W r (K : Act → World → Prop), Bk w.heap.size r W → J s W → Px s x W → (∀ a' W', Below W.heap.size W W' → Kp W W' → Ax s x a' W' → K a' W') →
      assign.wpIn (Fence.wide.inRound (w.heap.size + 1)) (n - 1 - 1) P (Exit.then K (fun _ _ _ => False)) { tmps := (ps.zip (encs x)).foldl (fun t (p, v) => t.setIfInBounds p v) a.tmps, defers := [] } W)
    (hbody : ∀ s x a' V r, Bk w.heap.size r V → Ax s x a' V → body.wpIn (Fence.wide.inRound (w.heap.size + 1)) (n - 1 - 1) P (Goes w.heap.size (J (s ++ [x])) Kp V) a' V)
    (hiter : ∀ r W1, Bk w.heap.size r W1 → W1 = (w.alloc (.deferred (some []))).alloc (.loop r) →
      (∀ s x W, Bk w.heap.size r W → J s W → Px s x W → YieldAt Fence.wide (n - 1 - 1) P (w.heap.size + 1) (encs x) W fun e W' => e = .returned (.bool true) ∧ Bk w.heap.size r W' ∧ J (s ++ [x]) W' ∧ Kp W W') →
      CallsIn Fence.wide (n - 1) P gf (#[.func (.yield (w.heap.size + 1)) #[] #[]] ++ lb) W1 fun e W' => (∃ v, e = .returned v) ∧ Bk w.heap.size r W' ∧
        ∀ r', Q .normal { a with defers := { target := .collected w.heap.size, args := #[] } :: a.defers } (W'.putObj (w.heap.size + 1) (.loop r'))) :
    (Code.rangeFunc g ps assign body).wpIn Fence.wide n P Q a w := by
  refine wpIn_rangeFunc ?_
  intro fn hfn
  have hl1 : ((w.alloc (.deferred (some []))).alloc (.loop { state := .ready, pending := none, fn, tmps := a.tmps, params := ps, assign, body, defers := w.heap.size })).heap[w.heap.size + 1]? = some (.loop { state := .ready, pending := none, fn, tmps := a.tmps, params := ps, assign, body, defers := w.heap.size }) := by
    have := World.alloc_heap_new (w.alloc (.deferred (some []))) (.loop { state := .ready, pending := none, fn, tmps := a.tmps, params := ps, assign, body, defers := w.heap.size })
    rwa [World.size_alloc] at this
  have hd1 : ((w.alloc (.deferred (some []))).alloc (.loop { state := .ready, pending := none, fn, tmps := a.tmps, params := ps, assign, body, defers := w.heap.size })).heap[w.heap.size]? = some (.deferred (some [])) :=
    (Below.heap_alloc _ _ _ (by simp)).trans (World.alloc_heap_new w _)
  obtain ⟨W1, hW1⟩ : ∃ W1, (w.alloc (.deferred (some []))).alloc (.loop { state := .ready, pending := none, fn, tmps := a.tmps, params := ps, assign, body, defers := w.heap.size }) = W1 := ⟨_, rfl⟩
  have hen := run_enterLoop_outer (P := P) (w := w) fn a.tmps ps assign body
  rw [hW1] at hen hl1 hd1
  refine ⟨w.heap.size + 1, [{ target := .collected w.heap.size, args := #[] }], W1, { target := .fn (.func gf) lb, args := #[.func (.yield (w.heap.size + 1)) #[] #[]] }, W1, gf,
    #[.func (.yield (w.heap.size + 1)) #[] #[]] ++ lb, W1, hen, ?_, fun _ _ => trivial, ?_, fun h => (by simp [Fence.wide] at h), ?_⟩
  · simp only [resolve, hg]
    simp [go_sem]
  · simp [invoke, go_sem, eg]
  · refine (hiter _ _ ⟨hd1, hl1⟩ hW1.symm ?_).mono ?_
    · intro s x W hk hj hp
      have hy := run_yield (P := P) (args := encs x) hk.lp (hps x)
      refine ⟨fn, _, assign, body, hy, roundIn_of_wpIn trivial (hassign s x W _ _ hk hj hp ?_)⟩
      intro a' Wa hb hka hax
      have hk2 := hk.below hb
      refine ⟨_, run_beginRound hk2.lp rfl, ?_⟩
      have hk3 := hk2.put { state := .busy, pending := none, fn, tmps := a.tmps, params := ps, assign, body, defers := w.heap.size }
      refine wpIn_mono (hbody s x a' _ _ hk3 (hA s x a' _ _ _ hk2 hax)) ?_
      rintro e a3 W3 hp3
      cases e with
      | normal =>
        obtain ⟨hbk, hkp, hj3⟩ := hp3
        have hk4 := hbk _ hk3
        exact ⟨_, _, run_endRound none hk4.lp, rfl, hk4.put _, hJ _ _ _ _ hk4 hj3, hKt _ _ _ hka (hKt _ _ _ (hKb _ _ _ hk2) (hKt _ _ _ hkp (hKb _ _ _ hk4)))⟩
      | ret => exact hp3.elim
      | exit id => exact hp3.elim
      | goto t => exact hp3.elim
      | panic ch => exact hp3.elim
      | outgrown => exact hp3.elim
    · rintro e W2 ⟨⟨v, rfl⟩, hk, hq⟩
      exact ⟨none, _, run_endLoop hk.lp (by simp), hq _⟩
theorem Seg.putLoop {W : World} {D : Nat} {r : Loop} {ao : Option Addr} {X n : Nat} (h : Seg W ao X n) (hk : Bk D r W) (r' : Loop) : Seg (W.putObj (D + 1) (.loop r')) ao X n := by
  refine ⟨h.1, fun hn => ?_⟩
  obtain ⟨b, off, e, hl, hc⟩ := h.2 hn
  refine ⟨b, off, e, by simpa using hl, fun i hi => ?_⟩
  have hb : b ≠ D + 1 := fun e => by
    have := hc i hi
    simp [World.cell?, e, hk.lp] at this
  rw [World.cell?_of_block (w := W) (World.putObj_heap_other hb)]
  exact hc i hi
theorem below_putLoop {W w : World} {D B : Nat} {r : Loop} (h : Below B w W) (hk : Bk D r W) (hB : B ≤ D + 1) (r' : Obj) : Below B w (W.putObj (D + 1) r') :=
  h.trans ⟨rfl, rfl, rfl, by simp, fun k hk => World.putObj_heap_other (by omega)⟩
theorem cells_putLoop {W : World} {D k : Nat} {r : Loop} {cur : Array Value} {t : TypeId} {fz : Nat × Nat} (h : W.heap[k]? = some (.cells cur t fz)) (hk : Bk D r W) (r' : Loop) : (W.putObj (D + 1) (.loop r')).heap[k]? = some (.cells cur t fz) := by
  have hb : k ≠ D + 1 := fun e => by rw [e, hk.lp] at h; simp at h
  rw [World.putObj_heap_other hb]
  exact h
theorem Seg.putDfr {W : World} {D : Nat} {r : Loop} {ao : Option Addr} {X n : Nat} (h : Seg W ao X n) (hk : Bk D r W) (o : Obj) : Seg (W.putObj D o) ao X n := by
  refine ⟨h.1, fun hn => ?_⟩
  obtain ⟨b, off, e, hl, hc⟩ := h.2 hn
  refine ⟨b, off, e, by simpa using hl, fun i hi => ?_⟩
  have hb : b ≠ D := fun e => by
    have := hc i hi
    simp [World.cell?, e, hk.dfr] at this
  rw [World.cell?_of_block (w := W) (World.putObj_heap_other hb)]
  exact hc i hi
theorem below_putDfr {W w : World} {D B : Nat} (h : Below B w W) (hB : B ≤ D) (o : Obj) : Below B w (W.putObj D o) :=
  h.trans ⟨rfl, rfl, rfl, by simp, fun k hk => World.putObj_heap_other (by omega)⟩
theorem cells_putDfr {W : World} {D k : Nat} {r : Loop} {cur : Array Value} {t : TypeId} {fz : Nat × Nat} (h : W.heap[k]? = some (.cells cur t fz)) (hk : Bk D r W) (o : Obj) : (W.putObj D o).heap[k]? = some (.cells cur t fz) := by
  have hb : k ≠ D := fun e => by rw [e, hk.dfr] at h; simp at h
  rw [World.putObj_heap_other hb]
  exact h
def csI (x : Int × Option Addr) : List Value := [.bool (ng x.1), .slice x.2 (ln (am x.1)) (ln (am x.1))]
def cellsI : List (Int × Option Addr) → List Value
  | [] => []
  | x :: s => csI x ++ cellsI s
def Out (B : Nat) (W : World) (k : Nat) : Prop := ∃ v, W.cell? ⟨B, 0, none⟩ = some v ∧ v.ownBlock = some k
theorem Out.below {B k : Nat} {W W' : World} (hb : Below W.heap.size W W') (hB : B < W.heap.size) : Out B W' k ↔ Out B W k := by
  unfold Out
  rw [hb.cell (p := ⟨B, 0, none⟩) hB]
theorem Out.put {B k D : Nat} {W : World} {r : Loop} (hk : Bk D r W) (r' : Loop) (h : Out B (W.putObj (D + 1) (.loop r')) k) : Out B W k := by
  obtain ⟨v, hv, hn⟩ := h
  by_cases e : B = D + 1
  · subst e
    simp [World.cell?, World.putObj_heap_same hk.lt] at hv
  · rw [World.cell?_of_block (w := W) (World.putObj_heap_other e)] at hv
    exact ⟨v, hv, hn⟩
structure Kpo (B : Nat) (W W' : World) : Prop where
  size : W.heap.size ≤ W'.heap.size
  same : ∀ k cur t fz, W.heap[k]? = some (.cells cur t fz) → k ≠ B → ¬ Out B W k → W'.heap[k]? = some (.cells cur t fz)
  out : ∀ k, Out B W' k → Out B W k ∨ W.heap.size ≤ k
theorem Kpo.trans {B : Nat} {W W1 W2 : World} (h : Kpo B W W1) (k : Kpo B W1 W2) : Kpo B W W2 := by
  refine ⟨Nat.le_trans h.size k.size, fun i cur t fz hi hB ho => ?_, fun i hi => ?_⟩
  · have hlt := (Array.getElem?_eq_some_iff.1 hi).1
    refine k.same i cur t fz (h.same i cur t fz hi hB ho) hB fun hn => ?_
    rcases h.out i hn with h1 | h1
    · exact ho h1
    · omega
  · rcases k.out i hi with h1 | h1
    · exact h.out i h1
    · exact .inr (Nat.le_trans h.size h1)
theorem Kpo.put {B D : Nat} {W : World} {r : Loop} (hk : Bk D r W) (r' : Loop) : Kpo B W (W.putObj (D + 1) (.loop r')) :=
  ⟨by simp, fun k cur t fz h _ _ => cells_putLoop h hk r', fun k h => .inl (h.put hk r')⟩
theorem Kpo.below {B : Nat} {W W' : World} (h : Below W.heap.size W W') (hB : B < W.heap.size) : Kpo B W W' :=
  ⟨h.size, fun k cur t fz hk _ _ => (h.block k (Array.getElem?_eq_some_iff.1 hk).1).trans hk, fun k hk => .inl ((Out.below h hB).1 hk)⟩
structure SegC (B : Nat) (W : World) (ao : Option Addr) (X n : Nat) : Prop where
  seg : Seg W ao X n
  clr : 0 < n → ∀ b off, ao = some ⟨b, off, none⟩ → b ≠ B ∧ ¬ Out B W b
theorem SegC.kpo {B : Nat} {W W' : World} {ao : Option Addr} {X n : Nat} (h : SegC B W ao X n) (k : Kpo B W W') : SegC B W' ao X n := by
  refine ⟨⟨h.seg.1, fun hn => ?_⟩, fun hn b off e => ?_⟩
  · obtain ⟨b, off, rfl, hl, hc⟩ := h.seg.2 hn
    obtain ⟨hB, ho⟩ := h.clr hn b off rfl
    refine ⟨b, off, rfl, Nat.lt_of_lt_of_le hl k.size, fun i hi => ?_⟩
    have h1 := hc i hi
    have hbl : W'.heap[b]? = W.heap[b]? := by
      have h2 := h1
      simp only [World.cell?] at h2
      cases hh : W.heap[b]? with
      | none => simp [hh] at h2
      | some o =>
        cases o with
        | cells cur t fz => exact k.same b cur t fz hh hB ho
        | _ => simp [hh] at h2
    rw [World.cell?_of_block (w := W) hbl]
    exact h1
  · obtain ⟨hB, ho⟩ := h.clr hn b off e
    refine ⟨hB, fun h1 => ?_⟩
    obtain ⟨b', off', e', hl, _⟩ := h.seg.2 hn
    rw [e] at e'
    simp only [Option.some.injEq, Addr.mk.injEq, and_true] at e'
    rcases k.out b h1 with h2 | h2
    · exact ho h2
    · omega
theorem SegC.below {B : Nat} {W W' : World} {ao : Option Addr} {X n : Nat} (h : SegC B W ao X n) (hb : Below W.heap.size W W') (hB : B < W.heap.size) : SegC B W' ao X n := h.kpo (Kpo.below hb hB)
structure BoxC (B : Nat) (W : World) (c : Nat) (cur : Array Value) (t : TypeId) : Prop where
  box : W.heap[c]? = some (.cells cur t (0, 0))
  ne : c ≠ B
  clr : ¬ Out B W c
theorem BoxC.lt {B : Nat} {W : World} {c : Nat} {cur : Array Value} {t : TypeId} (h : BoxC B W c cur t) : c < W.heap.size := (Array.getElem?_eq_some_iff.1 h.box).1
theorem BoxC.kpo {B : Nat} {W W' : World} {c : Nat} {cur : Array Value} {t : TypeId} (h : BoxC B W c cur t) (k : Kpo B W W') : BoxC B W' c cur t := by
  refine ⟨k.same c cur t _ h.box h.ne h.clr, h.ne, fun h1 => ?_⟩
  have := h.lt
  rcases k.out c h1 with h2 | h2
  · exact h.clr h2
  · omega
theorem BoxC.below {B : Nat} {W W' : World} {c : Nat} {cur : Array Value} {t : TypeId} (h : BoxC B W c cur t) (hb : Below W.heap.size W W') (hB : B < W.heap.size) : BoxC B W' c cur t := h.kpo (Kpo.below hb hB)
theorem BoxC.new {B : Nat} (W : World) (cur : Array Value) (t : TypeId) (hB : B < W.heap.size) (ho : ∀ k, Out B W k → k < W.heap.size) : BoxC B (W.alloc (.cells cur t)) W.heap.size cur t := by
  refine ⟨World.alloc_heap_new W _, by omega, fun h1 => ?_⟩
  have := ho _ ((Out.below ((Below.refl W.heap.size W).alloc (Nat.le_refl _) _) hB).1 h1)
  omega
theorem BoxC.cell {B : Nat} {W : World} {c : Nat} {cur : Array Value} {t : TypeId} (h : BoxC B W c cur t) (o : Nat) : W.cell? ⟨c, o, none⟩ = cur[o]? := by simp [World.cell?, h.box]
theorem BoxC.frozen {B : Nat} {W : World} {c : Nat} {cur : Array Value} {t : TypeId} (h : BoxC B W c cur t) (o : Nat) : W.frozen? ⟨c, o, none⟩ = false := frozen_of_row W c o cur t h.box
structure JI (B n₀ : Nat) (w0 : World) (s : List (Int × Option Addr)) (W : World) : Prop where
  ex : ∃ v, Boxed W B 76 v ∧ W.ownsRow n₀ 25 2 v s.length (cellsI s)
  num : ∀ x ∈ s, SegC B W x.2 (am x.1) (ln (am x.1))
  bel : Below n₀ w0 W
  le : n₀ ≤ B
theorem JI.out {B n₀ : Nat} {w0 W : World} {s : List (Int × Option Addr)} (h : JI B n₀ w0 s W) : ∀ k, Out B W k → k < W.heap.size := by
  obtain ⟨v, hv, hr⟩ := h.ex
  rintro k ⟨v', hc, hn⟩
  rw [hv.cell] at hc
  obtain rfl := Option.some.inj hc
  exact (hr.lt k hn).2
theorem JI.lt {B n₀ : Nat} {w0 W : World} {s : List (Int × Option Addr)} (h : JI B n₀ w0 s W) : B < W.heap.size := by
  obtain ⟨v, hv, hr⟩ := h.ex
  exact hv.lt
theorem ownsRow_keep {w w' : World} {base : Nat} {e : TypeId} {size : Nat} {v : Value} {n : Nat} {xs : List Value} (h : w.ownsRow base e size v n xs) (hb : ∀ (k : Nat) cur t fz, w.heap[k]? = some (Obj.cells cur t fz) → w'.heap[k]? = some (Obj.cells cur t fz)) : w'.ownsRow base e size v n xs := by
  refine ⟨h.1, ?_⟩
  rcases h.2 with h0 | ⟨g, cap, cur, hv, hg, hc, rest⟩
  · exact Or.inl h0
  · exact Or.inr ⟨g, cap, cur, hv, hg, hb g _ _ _ hc, rest⟩
theorem JI.put {B n₀ D : Nat} {w0 W : World} {s : List (Int × Option Addr)} {r : Loop} (h : JI B n₀ w0 s W) (hk : Bk D r W) (hD : n₀ ≤ D + 1) (r' : Loop) : JI B n₀ w0 s (W.putObj (D + 1) (.loop r')) := by
  obtain ⟨v, hv, hr⟩ := h.ex
  exact ⟨⟨v, cells_putLoop hv hk r', ownsRow_keep hr fun k cur t fz hh => cells_putLoop hh hk r'⟩, fun x hx => (h.num x hx).kpo (Kpo.put hk r'), below_putLoop h.bel hk hD _, h.le⟩
theorem JI.below {B n₀ : Nat} {w0 W W' : World} {s : List (Int × Option Addr)} (h : JI B n₀ w0 s W) (hb : Below W.heap.size W W') : JI B n₀ w0 s W' := by
  obtain ⟨v, hv, hr⟩ := h.ex
  have hl := h.lt
  refine ⟨⟨v, (hb.block B hl).trans hv, ownsRow_keep hr fun k cur t fz hh => (hb.block k (Array.getElem?_eq_some_iff.1 hh).1).trans hh⟩, fun x hx => (h.num x hx).below hb hl, h.bel.trans (hb.mono ?_), h.le⟩
  have := h.le
  omega
theorem Bk.others {D : Nat} {r : Loop} {V W : World} (h : Bk D r V) (k : KeepsOthers V W) : Bk D r W := ⟨k.same _ _ h.dfr rfl, k.same _ _ h.lp rfl⟩
theorem Bk.ch {D c : Nat} {r : Loop} {W W' : World} {cur : Array Value} {t : TypeId} {fz : Nat × Nat} (h : Bk D r W) (k : Ch c W W') (hc : W.heap[c]? = some (.cells cur t fz)) : Bk D r W' := by
  refine ⟨(k.other D fun e => ?_).trans h.dfr, (k.other (D + 1) fun e => ?_).trans h.lp⟩
  · have := h.dfr
    rw [e, hc] at this
    simp at this
  · have := h.lp
    rw [e, hc] at this
    simp at this
theorem Out.ch {B c k : Nat} {W W' : World} (h : Ch c W W') (hB : c ≠ B) : Out B W' k ↔ Out B W k := by
  unfold Out
  rw [World.cell?_of_block (w := W) (a := ⟨B, 0, none⟩) (h.other B (Ne.symm hB))]
theorem SegC.ch {B c : Nat} {W W' : World} {ao : Option Addr} {X n : Nat} (h : SegC B W ao X n) (k : Ch c W W') (hB : c ≠ B) (hno : ∀ o i, W.cell? ⟨c, o, none⟩ ≠ some (.int .u32 i)) : SegC B W' ao X n := by
  refine ⟨⟨h.seg.1, fun hn => ?_⟩, fun hn b off e => ?_⟩
  · obtain ⟨b, off, e, hl, hc⟩ := h.seg.2 hn
    refine ⟨b, off, e, by rw [k.size]; exact hl, fun i hi => ?_⟩
    have h1 := hc i hi
    rw [World.cell?_of_block (w := W) (a := ⟨b, off + i, none⟩) (k.other b fun e => hno (off + i) _ (by rw [← e]; exact h1))]
    exact h1
  · obtain ⟨h1, h2⟩ := h.clr hn b off e
    exact ⟨h1, fun h3 => h2 ((Out.ch k hB).1 h3)⟩
theorem JI.ch {B n₀ c : Nat} {w0 W W' : World} {s : List (Int × Option Addr)} (h : JI B n₀ w0 s W) (k : Ch c W W') (hB : c ≠ B) (ho : ¬ Out B W c) (hn : n₀ ≤ c) (hno : ∀ o i, W.cell? ⟨c, o, none⟩ ≠ some (.int .u32 i)) : JI B n₀ w0 s W' := by
  obtain ⟨v, hv, hr⟩ := h.ex
  refine ⟨⟨v, (k.other B (Ne.symm hB)).trans hv, hr.1, ?_⟩, fun x hx => (h.num x hx).ch k hB hno, h.bel.trans (k.below hn), h.le⟩
  rcases hr.2 with h0 | ⟨g, cap, cur, hv', hg, hc, rest⟩
  · exact Or.inl h0
  · refine Or.inr ⟨g, cap, cur, hv', hg, (k.other g fun e => ho ⟨v, hv.cell, ?_⟩).trans hc, rest⟩
    subst hv'
    simp [Value.ownBlock, e]
open Go.RowKit
set_option maxHeartbeats 8000000 in
set_option maxRecDepth 100000 in
theorem mixed_is (Z0 Z1 Z2 Z3 : Int) (p0 p1 p2 p3 : Option Addr) (s : Bool) (a : Option Addr) (n c X : Nat) (A B : Int) (w : World) (h0 : Seg w p0 (am Z0) (ln (am Z0))) (l0 : ln (am Z0) ≤ 35184372088000) (h1 : Seg w p1 (am Z1) (ln (am Z1))) (l1 : ln (am Z1) ≤ 35184372088000) (h2 : Seg w p2 (am Z2) (ln (am Z2))) (l2 : ln (am Z2) ≤ 35184372088000) (h3 : Seg w p3 (am Z3) (ln (am Z3))) (l3 : ln (am Z3) ≤ 35184372088000) (hc : n ≤ c) (hn : n ≤ 35184372088000) (hS : Seg w a X n) (hA : Z2 * sg s X + Z0 = A) (hB : Z3 * sg s X + Z1 = B) :
    Calls Tryz.prog 85 #[.agg #[.bool (ng Z0), .slice p0 (ln (am Z0)) (ln (am Z0)), .bool (ng Z1), .slice p1 (ln (am Z1)) (ln (am Z1)), .bool (ng Z2), .slice p2 (ln (am Z2)) (ln (am Z2)), .bool (ng Z3), .slice p3 (ln (am Z3)) (ln (am Z3))], .agg #[.bool s, .slice a n c]] w fun e w' => ∃ pa pb, e = .returned (.agg #[.bool (ng A), .slice pa (ln (am A)) (ln (am A)), .bool (ng B), .slice pb (ln (am B)) (ln (am B))]) ∧ Below w.heap.size w w' ∧ Seg w' pa (am A) (ln (am A)) ∧ Seg w' pb (am B) (ln (am B)) := by
  obtain ⟨M2, hM2⟩ : ∃ M, Z2 * sg s X = M := ⟨_, rfl⟩
  obtain ⟨M3, hM3⟩ : ∃ M, Z3 * sg s X = M := ⟨_, rfl⟩
  rw [hM2] at hA
  rw [hM3] at hB
  have lM2 : ln (am M2) ≤ 70368744176100 := by rw [← hM2, am_mul, am_sg]; have := ln_prod (ln_lt (am Z2)) hS.1; omega
  have lM3 : ln (am M3) ≤ 70368744176100 := by rw [← hM3, am_mul, am_sg]; have := ln_prod (ln_lt (am Z3)) hS.1; omega
  have G1 := hide' (fun w' k1 k2 => wMul_is (ng Z2) p2 (ln (am Z2)) (ln (am Z2)) (am Z2) s a n c X M2 w' (Nat.le_refl _) (by omega) k1 hc (by omega) k2 (by rw [sg_na]; exact hM2))
  have G2 := hide' (fun w' k1 k2 => wMul_is (ng Z3) p3 (ln (am Z3)) (ln (am Z3)) (am Z3) s a n c X M3 w' (Nat.le_refl _) (by omega) k1 hc (by omega) k2 (by rw [sg_na]; exact hM3))
  have G3 := hide' (fun w' p k1 k2 => wAdd_is (ng M2) p (ln (am M2)) (ln (am M2)) (am M2) (ng Z0) p0 (ln (am Z0)) (ln (am Z0)) (am Z0) A w' (Nat.le_refl _) (by omega) k1 (Nat.le_refl _) (by omega) k2 (by rw [sg_na, sg_na]; exact hA))
  have G4 := hide' (fun w' p k1 k2 => wAdd_is (ng M3) p (ln (am M3)) (ln (am M3)) (am M3) (ng Z1) p1 (ln (am Z1)) (ln (am Z1)) (am Z1) B w' (Nat.le_refl _) (by omega) k1 (Nat.le_refl _) (by omega) k2 (by rw [sg_na, sg_na]; exact hB))
  clear hA hB hM2 hM3
  have b1 := below_alloc (w := w) (.cells #[.bool (ng Z0), .slice p0 (ln (am Z0)) (ln (am Z0)), .bool (ng Z1), .slice p1 (ln (am Z1)) (ln (am Z1)), .bool (ng Z2), .slice p2 (ln (am Z2)) (ln (am Z2)), .bool (ng Z3), .slice p3 (ln (am Z3)) (ln (am Z3))] 68)
  have b2 := b1.alloc (by simp) (.cells #[.bool s, .slice a n c] 25)
  have b3 := b2.alloc (by simp; omega) (.cells #[.bool false, .slice none 0 0, .bool false, .slice none 0 0] 43)
  have q1 := (Blk.new w #[.bool (ng Z0), .slice p0 (ln (am Z0)) (ln (am Z0)), .bool (ng Z1), .slice p1 (ln (am Z1)) (ln (am Z1)), .bool (ng Z2), .slice p2 (ln (am Z2)) (ln (am Z2)), .bool (ng Z3), .slice p3 (ln (am Z3)) (ln (am Z3))] 68).later ((below_alloc (.cells #[.bool s, .slice a n c] 25)).trans ((below_alloc (.cells #[.bool false, .slice none 0 0, .bool false, .slice none 0 0] 43)).mono (below_alloc _).size))
  have q2 := (Blk.new (w.alloc (.cells #[.bool (ng Z0), .slice p0 (ln (am Z0)) (ln (am Z0)), .bool (ng Z1), .slice p1 (ln (am Z1)) (ln (am Z1)), .bool (ng Z2), .slice p2 (ln (am Z2)) (ln (am Z2)), .bool (ng Z3), .slice p3 (ln (am Z3)) (ln (am Z3))] 68)) #[.bool s, .slice a n c] 25).later (below_alloc (.cells #[.bool false, .slice none 0 0, .bool false, .slice none 0 0] 43))
  have q3 := Blk.new ((w.alloc (.cells #[.bool (ng Z0), .slice p0 (ln (am Z0)) (ln (am Z0)), .bool (ng Z1), .slice p1 (ln (am Z1)) (ln (am Z1)), .bool (ng Z2), .slice p2 (ln (am Z2)) (ln (am Z2)), .bool (ng Z3), .slice p3 (ln (am Z3)) (ln (am Z3))] 68)).alloc (.cells #[.bool s, .slice a n c] 25)) #[.bool false, .slice none 0 0, .bool false, .slice none 0 0] 43
  simp only [World.size_alloc] at q2 q3
  replace h0 := h0.later b3
  replace h1 := h1.later b3
  replace h2 := h2.later b3
  replace h3 := h3.later b3
  replace hS := hS.later b3
  go_enter Tryz.func85, Tryz.ntmps85
  go_wp2_with fail
  obtain ⟨W, hW⟩ : ∃ W, ((w.alloc (.cells #[.bool (ng Z0), .slice p0 (ln (am Z0)) (ln (am Z0)), .bool (ng Z1), .slice p1 (ln (am Z1)) (ln (am Z1)), .bool (ng Z2), .slice p2 (ln (am Z2)) (ln (am Z2)), .bool (ng Z3), .slice p3 (ln (am Z3)) (ln (am Z3))] 68)).alloc (.cells #[.bool s, .slice a n c] 25)).alloc (.cells #[.bool false, .slice none 0 0, .bool false, .slice none 0 0] 43) = W := ⟨_, rfl⟩
  rw [hW] at b3 q1 q2 q3 h0 h1 h2 h3 hS ⊢
  clear hW b1 b2
  have x0 := q1.cell 0
  have x1 := q1.cell 1
  have x2 := q1.cell 2
  have x3 := q1.cell 3
  have x4 := q1.cell 4
  have x5 := q1.cell 5
  have x6 := q1.cell 6
  have x7 := q1.cell 7
  have y0 := q2.cell 0
  have y1 := q2.cell 1
  simp only [List.getElem?_toArray, List.getElem?_cons_zero, List.getElem?_cons_succ] at x0 x1 x2 x3 x4 x5 x6 x7 y0 y1
  clear q1 q2
  have bD : Below W.heap.size W W.drew := (Below.refl _ _).drew
  have kx0 := below_cell bD x0
  have kx1 := below_cell bD x1
  have kx2 := below_cell bD x2
  have kx3 := below_cell bD x3
  have kx4 := below_cell bD x4
  have kx5 := below_cell bD x5
  have kx6 := below_cell bD x6
  have kx7 := below_cell bD x7
  have ky0 := below_cell bD y0
  have ky1 := below_cell bD y1
  replace b3 := b3.trans (bD.mono b3.size)
  replace h0 := h0.later bD
  replace h1 := h1.later bD
  replace h2 := h2.later bD
  replace h3 := h3.later bD
  replace hS := hS.later bD
  replace q3 := q3.later bD
  refine wp_region_held_drew (S := fun w' => w'.cell? ⟨w.heap.size, 0, none⟩ = some (.bool (ng Z0)) ∧ w'.cell? ⟨w.heap.size, 1, none⟩ = some (.slice p0 (ln (am Z0)) (ln (am Z0))) ∧ w'.cell? ⟨w.heap.size, 2, none⟩ = some (.bool (ng Z1)) ∧ w'.cell? ⟨w.heap.size, 3, none⟩ = some (.slice p1 (ln (am Z1)) (ln (am Z1))) ∧ w'.cell? ⟨w.heap.size, 4, none⟩ = some (.bool (ng Z2)) ∧ w'.cell? ⟨w.heap.size, 5, none⟩ = some (.slice p2 (ln (am Z2)) (ln (am Z2))) ∧ w'.cell? ⟨w.heap.size, 6, none⟩ = some (.bool (ng Z3)) ∧ w'.cell? ⟨w.heap.size, 7, none⟩ = some (.slice p3 (ln (am Z3)) (ln (am Z3))) ∧ w'.cell? ⟨w.heap.size + 1, 0, none⟩ = some (.bool s) ∧ w'.cell? ⟨w.heap.size + 1, 1, none⟩ = some (.slice a n c)) (by kernel_rfl) ⟨kx0, kx1, kx2, kx3, kx4, kx5, kx6, kx7, ky0, ky1⟩ (fun hHeld => ?_)
  clear kx0 kx1 kx2 kx3 kx4 kx5 kx6 kx7 ky0 ky1
  generalize W.drew = wF0 at bD h0 h1 h2 h3 hS q3 b3 hHeld ⊢
  clear bD x0 x1 x2 x3 x4 x5 x6 x7 y0 y1
  refine tk 0 (v := ?_) rfl (Or.inl ⟨by rfl, ?_⟩) ?_
  rotate_left
  · intro w9 hSw
    go_simp
    first | done | with_reducible rfl
  simp only [pP, pN, pS, pZ, pC]
  refine tk 1 (v := ?_) rfl (Or.inl ⟨by rfl, ?_⟩) ?_
  rotate_left
  · intro w9 hSw
    go_simp
    first | done | with_reducible rfl
  simp only [pP, pN, pS, pZ, pC]
  refine tk 2 (v := ?_) rfl (Or.inl ⟨by rfl, ?_⟩) ?_
  rotate_left
  · intro w9 hSw
    go_simp
    first | done | with_reducible rfl
  simp only [pP, pN, pS, pZ, pC]
  refine tk 3 (v := ?_) rfl (Or.inl ⟨by rfl, ?_⟩) ?_
  rotate_left
  · intro w9 hSw
    go_simp
    first | done | with_reducible rfl
  simp only [pP, pN, pS, pZ, pC]
  refine tk 5 (v := ?_) rfl (Or.inl ⟨by rfl, ?_⟩) ?_
  rotate_left
  · intro w9 hSw
    go_simp
    first | done | with_reducible rfl
  simp only [pP, pN, pS, pZ, pC]
  refine tk 6 (v := ?_) rfl (Or.inl ⟨by rfl, ?_⟩) ?_
  rotate_left
  · intro w9 hSw
    go_simp
    first | done | with_reducible rfl
  simp only [pP, pN, pS, pZ, pC]
  refine tk 7 (v := ?_) rfl (Or.inl ⟨by rfl, ?_⟩) ?_
  rotate_left
  · intro w9 hSw
    go_simp
    first | done | with_reducible rfl
  simp only [pP, pN, pS, pZ, pC]
  refine tk 9 (v := ?_) rfl (Or.inl ⟨by rfl, ?_⟩) ?_
  rotate_left
  · intro w9 hSw
    go_simp
    first | done | with_reducible rfl
  simp only [pP, pN, pS, pZ, pC]
  refine tk 10 (v := ?_) rfl (Or.inl ⟨by rfl, ?_⟩) ?_
  rotate_left
  · intro w9 hSw
    go_simp
    first | done | with_reducible rfl
  simp only [pP, pN, pS, pZ, pC]
  refine tk 11 (v := ?_) rfl (Or.inl ⟨by rfl, ?_⟩) ?_
  rotate_left
  · intro w9 hSw
    go_simp
    first | done | with_reducible rfl
  simp only [pP, pN, pS, pZ, pC]
  refine tk 12 (v := ?_) rfl (Or.inl ⟨by rfl, ?_⟩) ?_
  rotate_left
  · intro w9 hSw
    go_simp
    first | done | with_reducible rfl
  simp only [pP, pN, pS, pZ, pC]
  refine tk 14 (v := ?_) rfl (Or.inl ⟨by rfl, ?_⟩) ?_
  rotate_left
  · intro w9 hSw
    go_simp
    first | done | with_reducible rfl
  simp only [pP, pN, pS, pZ, pC]
  refine tk 15 (v := ?_) rfl (Or.inl ⟨by rfl, ?_⟩) ?_
  rotate_left
  · intro w9 hSw
    go_simp
    first | done | with_reducible rfl
  simp only [pP, pN, pS, pZ, pC]
  refine tk 16 (v := ?_) rfl (Or.inl ⟨by rfl, ?_⟩) ?_
  rotate_left
  · intro w9 hSw
    go_simp
    first | done | with_reducible rfl
  simp only [pP, pN, pS, pZ, pC]
  refine wpAnyH_ready (rs := [4]) (by kernel_rfl) (by simp) ?_
  refine cons' rfl (fun KK hKK => ?_)
  go_simp
  refine (G1.out _ h2 hS).mono ?_
  rintro e wF1 ⟨pm, rfl, nw⟩
  have bC := nw.below
  replace b3 := b3.trans (bC.mono b3.size)
  replace h0 := h0.later bC
  replace h1 := h1.later bC
  replace h2 := h2.later bC
  replace h3 := h3.later bC
  replace hS := hS.later bC
  replace q3 := q3.later bC
  replace hHeld := (⟨below_cell bC hHeld.1, below_cell bC hHeld.2.1, below_cell bC hHeld.2.2.1, below_cell bC hHeld.2.2.2.1, below_cell bC hHeld.2.2.2.2.1, below_cell bC hHeld.2.2.2.2.2.1, below_cell bC hHeld.2.2.2.2.2.2.1, below_cell bC hHeld.2.2.2.2.2.2.2.1, below_cell bC hHeld.2.2.2.2.2.2.2.2.1, below_cell bC hHeld.2.2.2.2.2.2.2.2.2⟩ : _ ∧ _ ∧ _ ∧ _ ∧ _ ∧ _ ∧ _ ∧ _ ∧ _ ∧ _)
  clear bC
  go_wp2_with fail
  have k2 := nw.seg
  clear nw
  refine hKK.out _ _ hHeld ?_
  clear hHeld
  intro hHeld
  clear hKK KK
  try simp only [pP, pN, pS, pZ, pC]
  refine wpAnyH_ready (rs := [8]) (by kernel_rfl) (by simp) ?_
  refine cons' rfl (fun KK hKK => ?_)
  go_simp
  refine (G3.out _ pm k2 h0).mono ?_
  rintro e wF2 ⟨pa, rfl, nw⟩
  have bC := nw.below
  replace b3 := b3.trans (bC.mono b3.size)
  replace h0 := h0.later bC
  replace h1 := h1.later bC
  replace h2 := h2.later bC
  replace h3 := h3.later bC
  replace hS := hS.later bC
  replace q3 := q3.later bC
  replace k2 := k2.later bC
  replace hHeld := (⟨below_cell bC hHeld.1, below_cell bC hHeld.2.1, below_cell bC hHeld.2.2.1, below_cell bC hHeld.2.2.2.1, below_cell bC hHeld.2.2.2.2.1, below_cell bC hHeld.2.2.2.2.2.1, below_cell bC hHeld.2.2.2.2.2.2.1, below_cell bC hHeld.2.2.2.2.2.2.2.1, below_cell bC hHeld.2.2.2.2.2.2.2.2.1, below_cell bC hHeld.2.2.2.2.2.2.2.2.2⟩ : _ ∧ _ ∧ _ ∧ _ ∧ _ ∧ _ ∧ _ ∧ _ ∧ _ ∧ _)
  clear bC
  go_wp2_with fail
  have ka := nw.seg
  clear nw
  refine hKK.out _ _ hHeld ?_
  clear hHeld
  intro hHeld
  clear hKK KK
  try simp only [pP, pN, pS, pZ, pC]
  refine wpAnyH_ready (rs := [13]) (by kernel_rfl) (by simp) ?_
  refine cons' rfl (fun KK hKK => ?_)
  go_simp
  refine (G2.out _ h3 hS).mono ?_
  rintro e wF3 ⟨pn, rfl, nw⟩
  have bC := nw.below
  replace b3 := b3.trans (bC.mono b3.size)
  replace h0 := h0.later bC
  replace h1 := h1.later bC
  replace h2 := h2.later bC
  replace h3 := h3.later bC
  replace hS := hS.later bC
  replace q3 := q3.later bC
  replace k2 := k2.later bC
  replace ka := ka.later bC
  replace hHeld := (⟨below_cell bC hHeld.1, below_cell bC hHeld.2.1, below_cell bC hHeld.2.2.1, below_cell bC hHeld.2.2.2.1, below_cell bC hHeld.2.2.2.2.1, below_cell bC hHeld.2.2.2.2.2.1, below_cell bC hHeld.2.2.2.2.2.2.1, below_cell bC hHeld.2.2.2.2.2.2.2.1, below_cell bC hHeld.2.2.2.2.2.2.2.2.1, below_cell bC hHeld.2.2.2.2.2.2.2.2.2⟩ : _ ∧ _ ∧ _ ∧ _ ∧ _ ∧ _ ∧ _ ∧ _ ∧ _ ∧ _)
  clear bC
  go_wp2_with fail
  have k3 := nw.seg
  clear nw
  refine hKK.out _ _ hHeld ?_
  clear hHeld
  intro hHeld
  clear hKK KK
  try simp only [pP, pN, pS, pZ, pC]
  refine wpAnyH_ready (rs := [17]) (by kernel_rfl) (by simp) ?_
  refine cons' rfl (fun KK hKK => ?_)
  go_simp
  refine (G4.out _ pn k3 h1).mono ?_
  rintro e wF4 ⟨pb, rfl, nw⟩
  have bC := nw.below
  replace b3 := b3.trans (bC.mono b3.size)
  replace h0 := h0.later bC
  replace h1 := h1.later bC
  replace h2 := h2.later bC
  replace h3 := h3.later bC
  replace hS := hS.later bC
  replace q3 := q3.later bC
  replace k2 := k2.later bC
  replace ka := ka.later bC
  replace k3 := k3.later bC
  replace hHeld := (⟨below_cell bC hHeld.1, below_cell bC hHeld.2.1, below_cell bC hHeld.2.2.1, below_cell bC hHeld.2.2.2.1, below_cell bC hHeld.2.2.2.2.1, below_cell bC hHeld.2.2.2.2.2.1, below_cell bC hHeld.2.2.2.2.2.2.1, below_cell bC hHeld.2.2.2.2.2.2.2.1, below_cell bC hHeld.2.2.2.2.2.2.2.2.1, below_cell bC hHeld.2.2.2.2.2.2.2.2.2⟩ : _ ∧ _ ∧ _ ∧ _ ∧ _ ∧ _ ∧ _ ∧ _ ∧ _ ∧ _)
  clear bC
  go_wp2_with fail
  have kb := nw.seg
  clear nw
  refine hKK.out _ _ hHeld ?_
  clear hHeld
  intro hHeld
  clear hKK KK
  try simp only [pP, pN, pS, pZ, pC]
  refine tk 18 (v := ?_) rfl (Or.inl ⟨by rfl, ?_⟩) ?_
  rotate_left
  · intro w9 hSw
    go_simp
    first | done | with_reducible rfl
  simp only [pP, pN, pS, pZ, pC]
  refine wpAnyH_ready (rs := [19]) (by kernel_rfl) (by simp) ?_
  refine cons' rfl (fun KK hKK => ?_)
  have z0 := q3.cell 0
  have z1 := q3.cell 1
  have z2 := q3.cell 2
  have z3 := q3.cell 3
  simp only [List.getElem?_toArray, List.getElem?_cons_zero, List.getElem?_cons_succ] at z0 z1 z2 z3
  have fz := fun o => q3.frozen o
  obtain ⟨c9, q9⟩ := q3.set4 (.bool (ng A)) (.slice pa (ln (am A)) (ln (am A))) (.bool (ng B)) (.slice pb (ln (am B)) (ln (am B)))
  have hno := q3.no (by simp)
  replace ka := ka.ch c9 hno
  replace kb := kb.ch c9 hno
  have b9 := b3.trans (c9.below (by omega))
  have hH2 := (⟨(World.cell?_of_block (w := wF4) (a := ⟨w.heap.size, 0, none⟩) (c9.other (w.heap.size) (by omega))).trans hHeld.1, (World.cell?_of_block (w := wF4) (a := ⟨w.heap.size, 1, none⟩) (c9.other (w.heap.size) (by omega))).trans hHeld.2.1, (World.cell?_of_block (w := wF4) (a := ⟨w.heap.size, 2, none⟩) (c9.other (w.heap.size) (by omega))).trans hHeld.2.2.1, (World.cell?_of_block (w := wF4) (a := ⟨w.heap.size, 3, none⟩) (c9.other (w.heap.size) (by omega))).trans hHeld.2.2.2.1, (World.cell?_of_block (w := wF4) (a := ⟨w.heap.size, 4, none⟩) (c9.other (w.heap.size) (by omega))).trans hHeld.2.2.2.2.1, (World.cell?_of_block (w := wF4) (a := ⟨w.heap.size, 5, none⟩) (c9.other (w.heap.size) (by omega))).trans hHeld.2.2.2.2.2.1, (World.cell?_of_block (w := wF4) (a := ⟨w.heap.size, 6, none⟩) (c9.other (w.heap.size) (by omega))).trans hHeld.2.2.2.2.2.2.1, (World.cell?_of_block (w := wF4) (a := ⟨w.heap.size, 7, none⟩) (c9.other (w.heap.size) (by omega))).trans hHeld.2.2.2.2.2.2.2.1, (World.cell?_of_block (w := wF4) (a := ⟨w.heap.size + 1, 0, none⟩) (c9.other (w.heap.size + 1) (by omega))).trans hHeld.2.2.2.2.2.2.2.2.1, (World.cell?_of_block (w := wF4) (a := ⟨w.heap.size + 1, 1, none⟩) (c9.other (w.heap.size + 1) (by omega))).trans hHeld.2.2.2.2.2.2.2.2.2⟩ : _ ∧ _ ∧ _ ∧ _ ∧ _ ∧ _ ∧ _ ∧ _ ∧ _ ∧ _)
  have v0 := q9.cell 0
  have v1 := q9.cell 1
  have v2 := q9.cell 2
  have v3 := q9.cell 3
  simp only [List.getElem?_toArray, List.getElem?_cons_zero, List.getElem?_cons_succ] at v0 v1 v2 v3
  clear c9 q9 hno
  go_simp
  clear z0 z1 z2 z3 fz q3
  refine hKK.out _ _ hH2 ?_
  clear hHeld
  intro hHeld
  clear hKK KK
  try simp only [pP, pN, pS, pZ, pC]
  clear hH2
  refine wpAnyH_done (by kernel_rfl) ?_ _
  go_wp2_with fail
  refine bodyPost_ret (v := .agg #[.bool (ng A), .slice pa (ln (am A)) (ln (am A)), .bool (ng B), .slice pb (ln (am B)) (ln (am B))]) (by rw [results_cell rfl]; go_simp) rfl ?_
  exact ⟨pa, pb, rfl, b9, ka, kb⟩
set_option maxHeartbeats 8000000 in
set_option maxRecDepth 100000 in
theorem longer_is (Z0 Z1 Z2 Z3 : Int) (p0 p1 p2 p3 : Option Addr) (s : Bool) (a : Option Addr) (n c X : Nat) (A B : Int) (w : World) (h0 : Seg w p0 (am Z0) (ln (am Z0))) (l0 : ln (am Z0) ≤ 35184372088000) (h1 : Seg w p1 (am Z1) (ln (am Z1))) (l1 : ln (am Z1) ≤ 35184372088000) (h2 : Seg w p2 (am Z2) (ln (am Z2))) (l2 : ln (am Z2) ≤ 35184372088000) (h3 : Seg w p3 (am Z3) (ln (am Z3))) (l3 : ln (am Z3) ≤ 35184372088000) (hc : n ≤ c) (hn : n ≤ 35184372088000) (hS : Seg w a X n) (hA : Z2 * sg s X + Z0 = A) (hB : Z3 * sg s X + Z1 = B) :
    Calls Tryz.prog 48 #[.agg #[.bool (ng Z0), .slice p0 (ln (am Z0)) (ln (am Z0)), .bool (ng Z1), .slice p1 (ln (am Z1)) (ln (am Z1)), .bool (ng Z2), .slice p2 (ln (am Z2)) (ln (am Z2)), .bool (ng Z3), .slice p3 (ln (am Z3)) (ln (am Z3))], .agg #[.bool s, .slice a n c]] w fun e w' => ∃ pa pb, e = .returned (.agg #[.bool (ng Z2), .slice p2 (ln (am Z2)) (ln (am Z2)), .bool (ng Z3), .slice p3 (ln (am Z3)) (ln (am Z3)), .bool (ng A), .slice pa (ln (am A)) (ln (am A)), .bool (ng B), .slice pb (ln (am B)) (ln (am B))]) ∧ Below w.heap.size w w' ∧ Seg w' pa (am A) (ln (am A)) ∧ Seg w' pb (am B) (ln (am B)) := by
  have G1 := hide' (fun w' k0 k1 k2 k3 k4 => mixed_is Z0 Z1 Z2 Z3 p0 p1 p2 p3 s a n c X A B w' k0 l0 k1 l1 k2 l2 k3 l3 hc hn k4 hA hB)
  clear hA hB
  have b1 := below_alloc (w := w) (.cells #[.bool (ng Z0), .slice p0 (ln (am Z0)) (ln (am Z0)), .bool (ng Z1), .slice p1 (ln (am Z1)) (ln (am Z1)), .bool (ng Z2), .slice p2 (ln (am Z2)) (ln (am Z2)), .bool (ng Z3), .slice p3 (ln (am Z3)) (ln (am Z3))] 68)
  have b2 := b1.alloc (by simp) (.cells #[.bool s, .slice a n c] 25)
  have b3 := b2.alloc (by simp; omega) (.cells #[.bool false, .slice none 0 0, .bool false, .slice none 0 0, .bool false, .slice none 0 0, .bool false, .slice none 0 0] 68)
  have q1 := (Blk.new w #[.bool (ng Z0), .slice p0 (ln (am Z0)) (ln (am Z0)), .bool (ng Z1), .slice p1 (ln (am Z1)) (ln (am Z1)), .bool (ng Z2), .slice p2 (ln (am Z2)) (ln (am Z2)), .bool (ng Z3), .slice p3 (ln (am Z3)) (ln (am Z3))] 68).later ((below_alloc (.cells #[.bool s, .slice a n c] 25)).trans ((below_alloc (.cells #[.bool false, .slice none 0 0, .bool false, .slice none 0 0, .bool false, .slice none 0 0, .bool false, .slice none 0 0] 68)).mono (below_alloc _).size))
  have q2 := (Blk.new (w.alloc (.cells #[.bool (ng Z0), .slice p0 (ln (am Z0)) (ln (am Z0)), .bool (ng Z1), .slice p1 (ln (am Z1)) (ln (am Z1)), .bool (ng Z2), .slice p2 (ln (am Z2)) (ln (am Z2)), .bool (ng Z3), .slice p3 (ln (am Z3)) (ln (am Z3))] 68)) #[.bool s, .slice a n c] 25).later (below_alloc (.cells #[.bool false, .slice none 0 0, .bool false, .slice none 0 0, .bool false, .slice none 0 0, .bool false, .slice none 0 0] 68))
  have q3 := Blk.new ((w.alloc (.cells #[.bool (ng Z0), .slice p0 (ln (am Z0)) (ln (am Z0)), .bool (ng Z1), .slice p1 (ln (am Z1)) (ln (am Z1)), .bool (ng Z2), .slice p2 (ln (am Z2)) (ln (am Z2)), .bool (ng Z3), .slice p3 (ln (am Z3)) (ln (am Z3))] 68)).alloc (.cells #[.bool s, .slice a n c] 25)) #[.bool false, .slice none 0 0, .bool false, .slice none 0 0, .bool false, .slice none 0 0, .bool false, .slice none 0 0] 68
  simp only [World.size_alloc] at q2 q3
  replace h0 := h0.later b3
  replace h1 := h1.later b3
  replace h2 := h2.later b3
  replace h3 := h3.later b3
  replace hS := hS.later b3
  go_enter Tryz.func48, Tryz.ntmps48
  go_wp2_with fail
  obtain ⟨W, hW⟩ : ∃ W, ((w.alloc (.cells #[.bool (ng Z0), .slice p0 (ln (am Z0)) (ln (am Z0)), .bool (ng Z1), .slice p1 (ln (am Z1)) (ln (am Z1)), .bool (ng Z2), .slice p2 (ln (am Z2)) (ln (am Z2)), .bool (ng Z3), .slice p3 (ln (am Z3)) (ln (am Z3))] 68)).alloc (.cells #[.bool s, .slice a n c] 25)).alloc (.cells #[.bool false, .slice none 0 0, .bool false, .slice none 0 0, .bool false, .slice none 0 0, .bool false, .slice none 0 0] 68) = W := ⟨_, rfl⟩
  rw [hW] at b3 q1 q2 q3 h0 h1 h2 h3 hS ⊢
  clear hW b1 b2
  have x0 := q1.cell 0
  have x1 := q1.cell 1
  have x2 := q1.cell 2
  have x3 := q1.cell 3
  have x4 := q1.cell 4
  have x5 := q1.cell 5
  have x6 := q1.cell 6
  have x7 := q1.cell 7
  have y0 := q2.cell 0
  have y1 := q2.cell 1
  simp only [List.getElem?_toArray, List.getElem?_cons_zero, List.getElem?_cons_succ] at x0 x1 x2 x3 x4 x5 x6 x7 y0 y1
  clear q1 q2
  have bD : Below W.heap.size W W.drew := (Below.refl _ _).drew
  have kx0 := below_cell bD x0
  have kx1 := below_cell bD x1
  have kx2 := below_cell bD x2
  have kx3 := below_cell bD x3
  have kx4 := below_cell bD x4
  have kx5 := below_cell bD x5
  have kx6 := below_cell bD x6
  have kx7 := below_cell bD x7
  have ky0 := below_cell bD y0
  have ky1 := below_cell bD y1
  replace b3 := b3.trans (bD.mono b3.size)
  replace h0 := h0.later bD
  replace h1 := h1.later bD
  replace h2 := h2.later bD
  replace h3 := h3.later bD
  replace hS := hS.later bD
  replace q3 := q3.later bD
  refine wp_region_held_drew (S := fun w' => w'.cell? ⟨w.heap.size, 0, none⟩ = some (.bool (ng Z0)) ∧ w'.cell? ⟨w.heap.size, 1, none⟩ = some (.slice p0 (ln (am Z0)) (ln (am Z0))) ∧ w'.cell? ⟨w.heap.size, 2, none⟩ = some (.bool (ng Z1)) ∧ w'.cell? ⟨w.heap.size, 3, none⟩ = some (.slice p1 (ln (am Z1)) (ln (am Z1))) ∧ w'.cell? ⟨w.heap.size, 4, none⟩ = some (.bool (ng Z2)) ∧ w'.cell? ⟨w.heap.size, 5, none⟩ = some (.slice p2 (ln (am Z2)) (ln (am Z2))) ∧ w'.cell? ⟨w.heap.size, 6, none⟩ = some (.bool (ng Z3)) ∧ w'.cell? ⟨w.heap.size, 7, none⟩ = some (.slice p3 (ln (am Z3)) (ln (am Z3))) ∧ w'.cell? ⟨w.heap.size + 1, 0, none⟩ = some (.bool s) ∧ w'.cell? ⟨w.heap.size + 1, 1, none⟩ = some (.slice a n c)) (by kernel_rfl) ⟨kx0, kx1, kx2, kx3, kx4, kx5, kx6, kx7, ky0, ky1⟩ (fun hHeld => ?_)
  clear kx0 kx1 kx2 kx3 kx4 kx5 kx6 kx7 ky0 ky1
  generalize W.drew = wF0 at bD h0 h1 h2 h3 hS q3 b3 hHeld ⊢
  clear bD x0 x1 x2 x3 x4 x5 x6 x7 y0 y1
  refine tk 0 (v := ?_) rfl (Or.inl ⟨by rfl, ?_⟩) ?_
  rotate_left
  · intro w9 hSw
    go_simp
    first | done | with_reducible rfl
  simp only [pP, pN, pS, pZ, pC]
  refine tk 1 (v := ?_) rfl (Or.inl ⟨by rfl, ?_⟩) ?_
  rotate_left
  · intro w9 hSw
    go_simp
    first | done | with_reducible rfl
  simp only [pP, pN, pS, pZ, pC]
  refine tk 2 (v := ?_) rfl (Or.inl ⟨by rfl, ?_⟩) ?_
  rotate_left
  · intro w9 hSw
    go_simp
    first | done | with_reducible rfl
  simp only [pP, pN, pS, pZ, pC]
  refine tk 3 (v := ?_) rfl (Or.inl ⟨by rfl, ?_⟩) ?_
  rotate_left
  · intro w9 hSw
    go_simp
    first | done | with_reducible rfl
  simp only [pP, pN, pS, pZ, pC]
  refine wpAnyH_ready (rs := [4]) (by kernel_rfl) (by simp) ?_
  refine cons' rfl (fun KK hKK => ?_)
  go_simp
  refine (G1.out _ h0 h1 h2 h3 hS).mono ?_
  rintro e wF1 ⟨pa, pb, rfl, bV, ka, kb⟩
  have bC := bV
  replace b3 := b3.trans (bC.mono b3.size)
  replace h0 := h0.later bC
  replace h1 := h1.later bC
  replace h2 := h2.later bC
  replace h3 := h3.later bC
  replace hS := hS.later bC
  replace q3 := q3.later bC
  replace hHeld := (⟨below_cell bC hHeld.1, below_cell bC hHeld.2.1, below_cell bC hHeld.2.2.1, below_cell bC hHeld.2.2.2.1, below_cell bC hHeld.2.2.2.2.1, below_cell bC hHeld.2.2.2.2.2.1, below_cell bC hHeld.2.2.2.2.2.2.1, below_cell bC hHeld.2.2.2.2.2.2.2.1, below_cell bC hHeld.2.2.2.2.2.2.2.2.1, below_cell bC hHeld.2.2.2.2.2.2.2.2.2⟩ : _ ∧ _ ∧ _ ∧ _ ∧ _ ∧ _ ∧ _ ∧ _ ∧ _ ∧ _)
  clear bC
  go_wp2_with fail
  clear bV
  refine hKK.out _ _ hHeld ?_
  clear hHeld
  intro hHeld
  clear hKK KK
  try simp only [pP, pN, pS, pZ, pC]
  refine tk 5 (v := ?_) rfl (Or.inl ⟨by rfl, ?_⟩) ?_
  rotate_left
  · intro w9 hSw
    go_simp
    first | done | with_reducible rfl
  simp only [pP, pN, pS, pZ, pC]
  refine wpAnyH_ready (rs := [6]) (by kernel_rfl) (by simp) ?_
  refine cons' rfl (fun KK hKK => ?_)
  have z0 := q3.cell 0
  have z1 := q3.cell 1
  have z2 := q3.cell 2
  have z3 := q3.cell 3
  have z4 := q3.cell 4
  have z5 := q3.cell 5
  have z6 := q3.cell 6
  have z7 := q3.cell 7
  simp only [List.getElem?_toArray, List.getElem?_cons_zero, List.getElem?_cons_succ] at z0 z1 z2 z3 z4 z5 z6 z7
  have fz := fun o => q3.frozen o
  obtain ⟨c9, q9⟩ := q3.set8 (.bool (ng Z2)) (.slice p2 (ln (am Z2)) (ln (am Z2))) (.bool (ng Z3)) (.slice p3 (ln (am Z3)) (ln (am Z3))) (.bool (ng A)) (.slice pa (ln (am A)) (ln (am A))) (.bool (ng B)) (.slice pb (ln (am B)) (ln (am B)))
  have hno := q3.no (by simp)
  replace ka := ka.ch c9 hno
  replace kb := kb.ch c9 hno
  have b9 := b3.trans (c9.below (by omega))
  have hH2 := (⟨(World.cell?_of_block (w := wF1) (a := ⟨w.heap.size, 0, none⟩) (c9.other (w.heap.size) (by omega))).trans hHeld.1, (World.cell?_of_block (w := wF1) (a := ⟨w.heap.size, 1, none⟩) (c9.other (w.heap.size) (by omega))).trans hHeld.2.1, (World.cell?_of_block (w := wF1) (a := ⟨w.heap.size, 2, none⟩) (c9.other (w.heap.size) (by omega))).trans hHeld.2.2.1, (World.cell?_of_block (w := wF1) (a := ⟨w.heap.size, 3, none⟩) (c9.other (w.heap.size) (by omega))).trans hHeld.2.2.2.1, (World.cell?_of_block (w := wF1) (a := ⟨w.heap.size, 4, none⟩) (c9.other (w.heap.size) (by omega))).trans hHeld.2.2.2.2.1, (World.cell?_of_block (w := wF1) (a := ⟨w.heap.size, 5, none⟩) (c9.other (w.heap.size) (by omega))).trans hHeld.2.2.2.2.2.1, (World.cell?_of_block (w := wF1) (a := ⟨w.heap.size, 6, none⟩) (c9.other (w.heap.size) (by omega))).trans hHeld.2.2.2.2.2.2.1, (World.cell?_of_block (w := wF1) (a := ⟨w.heap.size, 7, none⟩) (c9.other (w.heap.size) (by omega))).trans hHeld.2.2.2.2.2.2.2.1, (World.cell?_of_block (w := wF1) (a := ⟨w.heap.size + 1, 0, none⟩) (c9.other (w.heap.size + 1) (by omega))).trans hHeld.2.2.2.2.2.2.2.2.1, (World.cell?_of_block (w := wF1) (a := ⟨w.heap.size + 1, 1, none⟩) (c9.other (w.heap.size + 1) (by omega))).trans hHeld.2.2.2.2.2.2.2.2.2⟩ : _ ∧ _ ∧ _ ∧ _ ∧ _ ∧ _ ∧ _ ∧ _ ∧ _ ∧ _)
  have v0 := q9.cell 0
  have v1 := q9.cell 1
  have v2 := q9.cell 2
  have v3 := q9.cell 3
  have v4 := q9.cell 4
  have v5 := q9.cell 5
  have v6 := q9.cell 6
  have v7 := q9.cell 7
  simp only [List.getElem?_toArray, List.getElem?_cons_zero, List.getElem?_cons_succ] at v0 v1 v2 v3 v4 v5 v6 v7
  clear c9 q9 hno
  go_simp
  clear z0 z1 z2 z3 z4 z5 z6 z7 fz q3
  refine hKK.out _ _ hH2 ?_
  clear hHeld
  intro hHeld
  clear hKK KK
  try simp only [pP, pN, pS, pZ, pC]
  clear hH2
  refine wpAnyH_done (by kernel_rfl) ?_ _
  go_wp2_with fail
  refine bodyPost_ret (v := .agg #[.bool (ng Z2), .slice p2 (ln (am Z2)) (ln (am Z2)), .bool (ng Z3), .slice p3 (ln (am Z3)) (ln (am Z3)), .bool (ng A), .slice pa (ln (am A)) (ln (am A)), .bool (ng B), .slice pb (ln (am B)) (ln (am B))]) (by rw [results_cell rfl]; go_simp) rfl ?_
  exact ⟨pa, pb, rfl, b9, ka, kb⟩
set_option maxHeartbeats 4000000 in
set_option maxRecDepth 100000 in
theorem beginning_is (O I : Int) (hO : O = 0) (hI : I = 1) (w : World) :
    Calls Tryz.prog 46 #[] w fun e w' => ∃ p0 p1 p2 p3, e = .returned (.agg #[.bool (ng O), .slice p0 (ln (am O)) (ln (am O)), .bool (ng I), .slice p1 (ln (am I)) (ln (am I)), .bool (ng I), .slice p2 (ln (am I)) (ln (am I)), .bool (ng O), .slice p3 (ln (am O)) (ln (am O))]) ∧ Below w.heap.size w w' ∧ Seg w' p0 (am O) (ln (am O)) ∧ Seg w' p1 (am I) (ln (am I)) ∧ Seg w' p2 (am I) (ln (am I)) ∧ Seg w' p3 (am O) (ln (am O)) := by
  have GO' : ∀ w', Calls Tryz.prog 62 #[.int .i64 0] w' fun e w'' => ∃ p, e = .returned (.agg #[.bool (ng O), .slice p (ln (am O)) (ln (am O))]) ∧ New w' w'' p (am O) (ln (am O)) := fun w' => by subst hO; exact wOf_is 0 w' (by omega) (by omega)
  have GI' : ∀ w', Calls Tryz.prog 62 #[.int .i64 1] w' fun e w'' => ∃ p, e = .returned (.agg #[.bool (ng I), .slice p (ln (am I)) (ln (am I))]) ∧ New w' w'' p (am I) (ln (am I)) := fun w' => by subst hI; exact wOf_is 1 w' (by omega) (by omega)
  have GO := hide' GO'
  have GI := hide' GI'
  clear GO' GI' hO hI
  have b0 := below_alloc (w := w) (.cells #[.bool false, .slice none 0 0, .bool false, .slice none 0 0, .bool false, .slice none 0 0, .bool false, .slice none 0 0] 68)
  have q0 := Blk.new w #[.bool false, .slice none 0 0, .bool false, .slice none 0 0, .bool false, .slice none 0 0, .bool false, .slice none 0 0] 68
  go_enter Tryz.func46, Tryz.ntmps46
  go_wp2_with fail
  refine (GO.out _).mono ?_
  rintro e w0 ⟨p0, rfl, n0⟩
  have bb := n0.below
  have k0 := n0.seg
  clear n0
  replace q0 := q0.later bb
  replace b0 := b0.trans (bb.mono b0.size)
  clear bb
  go_wp2_with fail
  refine (GI.out _).mono ?_
  rintro e w1 ⟨p1, rfl, n1⟩
  have bb := n1.below
  have k1 := n1.seg
  clear n1
  replace k0 := k0.later bb
  replace q0 := q0.later bb
  replace b0 := b0.trans (bb.mono b0.size)
  clear bb
  go_wp2_with fail
  refine (GI.out _).mono ?_
  rintro e w2 ⟨p2, rfl, n2⟩
  have bb := n2.below
  have k2 := n2.seg
  clear n2
  replace k0 := k0.later bb
  replace k1 := k1.later bb
  replace q0 := q0.later bb
  replace b0 := b0.trans (bb.mono b0.size)
  clear bb
  go_wp2_with fail
  refine (GO.out _).mono ?_
  rintro e w3 ⟨p3, rfl, n3⟩
  have bb := n3.below
  have k3 := n3.seg
  clear n3
  replace k0 := k0.later bb
  replace k1 := k1.later bb
  replace k2 := k2.later bb
  replace q0 := q0.later bb
  replace b0 := b0.trans (bb.mono b0.size)
  clear bb
  have z0 := q0.cell 0
  have z1 := q0.cell 1
  have z2 := q0.cell 2
  have z3 := q0.cell 3
  have z4 := q0.cell 4
  have z5 := q0.cell 5
  have z6 := q0.cell 6
  have z7 := q0.cell 7
  simp only [List.getElem?_toArray, List.getElem?_cons_zero, List.getElem?_cons_succ] at z0 z1 z2 z3 z4 z5 z6 z7
  have fz := fun o => q0.frozen o
  go_wp2_with fail
  obtain ⟨c9, q9⟩ := q0.set8 (.bool (ng O)) (.slice p0 (ln (am O)) (ln (am O))) (.bool (ng I)) (.slice p1 (ln (am I)) (ln (am I))) (.bool (ng I)) (.slice p2 (ln (am I)) (ln (am I))) (.bool (ng O)) (.slice p3 (ln (am O)) (ln (am O)))
  have hno := q0.no (by simp)
  replace k0 := k0.ch c9 hno
  replace k1 := k1.ch c9 hno
  replace k2 := k2.ch c9 hno
  replace k3 := k3.ch c9 hno
  have b9 := b0.trans (c9.below (Nat.le_refl _))
  have v0 := q9.cell 0
  have v1 := q9.cell 1
  have v2 := q9.cell 2
  have v3 := q9.cell 3
  have v4 := q9.cell 4
  have v5 := q9.cell 5
  have v6 := q9.cell 6
  have v7 := q9.cell 7
  simp only [List.getElem?_toArray, List.getElem?_cons_zero, List.getElem?_cons_succ] at v0 v1 v2 v3 v4 v5 v6 v7
  clear z0 z1 z2 z3 z4 z5 z6 z7
  refine bodyPost_ret (v := .agg #[.bool (ng O), .slice p0 (ln (am O)) (ln (am O)), .bool (ng I), .slice p1 (ln (am I)) (ln (am I)), .bool (ng I), .slice p2 (ln (am I)) (ln (am I)), .bool (ng O), .slice p3 (ln (am O)) (ln (am O))]) (by rw [results_cell rfl]; go_simp) rfl ?_
  exact ⟨p0, p1, p2, p3, rfl, b9, k0, k1, k2, k3⟩
set_option maxHeartbeats 4000000 in
set_option maxRecDepth 100000 in
theorem frat_is (A B : Int) (pa pb : Option Addr) (w : World) :
    Calls Tryz.prog 51 #[.agg #[.bool (ng A), .slice pa (ln (am A)) (ln (am A)), .bool (ng B), .slice pb (ln (am B)) (ln (am B))]] w fun e w' => e = .returned (.agg #[.bool (ng A), .slice pa (ln (am A)) (ln (am A)), .slice pb (ln (am B)) (ln (am B))]) ∧ Below w.heap.size w w' := by
  have b3 := (below_alloc (w := w) (.cells #[.bool (ng A), .slice pa (ln (am A)) (ln (am A)), .bool (ng B), .slice pb (ln (am B)) (ln (am B))] 43)).alloc (by simp) (.cells #[.bool (ng A), .slice pa (ln (am A)) (ln (am A)), .slice pb (ln (am B)) (ln (am B))] 27)
  go_enter Tryz.func51, Tryz.ntmps51
  go_wp2
  refine bodyPost_ret (v := .agg #[.bool (ng A), .slice pa (ln (am A)) (ln (am A)), .slice pb (ln (am B)) (ln (am B))]) (by rw [results_cell rfl]; go_simp) rfl ?_
  exact ⟨rfl, b3⟩
end Go.Proofs.YtejlnodillnoaaaGreatDoor
