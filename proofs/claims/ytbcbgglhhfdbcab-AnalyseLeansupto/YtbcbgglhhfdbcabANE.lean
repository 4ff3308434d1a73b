/-
  analyse: ranges over functions (the laws of WJ1 and WBA, without numbers); causes.
-/
import Derived.Test.YtbcbgglhhfdbcabANC
import Derived.Test.YtbcbgglhhfdbcabAN8
import Derived.RangeFuncNested
import Derived.RangeFuncBound
import Derived.RangeFuncCalls
import Derived.RangeFuncLeaves
import Derived.RangeFuncRecord
import Derived.RangeFuncBox
import Derived.Shelf.Abstract
import Derived.Shelf.RegionOpen
import Derived.OwnWalkIn
import Derived.TacticsInMore
import Derived.LoopNIn
import Derived.LoopIn
import Derived.Maps.AppendAt
import Derived.Deep.RegionHeld
import Derived.Deep.Cut
namespace Go.Proofs.Ytbcbgglhhfdbcab
open Go.RowKit Go.Shelf
set_option linter.unusedVariables false
set_option linter.unusedSimpArgs false
attribute [local go_sem] Oper.semAt_some
/-- the two blocks of a range over a function: the deferred calls at D, its record behind them -/
structure Bk (D : Nat) (r : Loop) (W : World) : Prop where
  dfr : W.heap[D]? = some (.deferred (some []))
  lp : W.heap[D + 1]? = some (.loop r)
theorem Bk.lt {D : Nat} {r : Loop} {W : World} (h : Bk D r W) : D + 1 < W.heap.size := (Array.getElem?_eq_some_iff.1 h.lp).1
theorem Bk.below {D : Nat} {r : Loop} {W W' : World} (h : Bk D r W) (hb : Below W.heap.size W W') : Bk D r W' := by
  have := h.lt
  exact ⟨(hb.block D (by omega)).trans h.dfr, (hb.block (D + 1) (by omega)).trans h.lp⟩
theorem Bk.put {D : Nat} {r : Loop} {W : World} (h : Bk D r W) (r' : Loop) : Bk D r' (W.putObj (D + 1) (.loop r')) :=
  ⟨(World.putObj_heap_other (by omega)).trans h.dfr, World.putObj_heap_same h.lt⟩

/-- a round that goes on: what it leaves -/
def Goes (D : Nat) (J : World → Prop) (Kp : World → World → Prop) (V : World) : Exit → Act → World → Prop
  | .normal, _, W => (∀ r, Bk D r V → Bk D r W) ∧ Kp V W ∧ J W
  | _, _, _ => False

variable {P : Program} {n : Nat}

theorem range_all {α : Type} {g : Operand} {ps : Array Tmp} {assign body : Code} {Q : Exit → Act → World → Prop} {a : Act} {w : World} {gf : Nat} {lb : Array Value}
    (hg : a.eval g = .func (.func gf) #[] lb) (eg : ∀ args w, (callFunc gf args).run P w = .ok (.enter gf args) w)
    (encs : α → Array Value) (hps : ∀ x, (encs x).size = ps.size)
    (J : List α → World → Prop) (Px : List α → α → World → Prop) (Kp : World → World → Prop) (Ax : List α → α → Act → World → Prop)
    (hJ : ∀ s W r r', Bk w.heap.size r W → J s W → J s (W.putObj (w.heap.size + 1) (.loop r')))
    (hA : ∀ s x a' W r r', Bk w.heap.size r W → Ax s x a' W → Ax s x a' (W.putObj (w.heap.size + 1) (.loop r')))
    (hKb : ∀ W r r', Bk w.heap.size r W → Kp W (W.putObj (w.heap.size + 1) (.loop r'))) (hKt : ∀ A B C, Kp A B → Kp B C → Kp A C)
    (hassign : ∀ s x W r (K : Act → World → Prop), Bk w.heap.size r W → J s W → Px s x W → (∀ a' W', Below W.heap.size W W' → Kp W W' → Ax s x a' W' → K a' W') →
      assign.wpIn (Fence.wide.inRound (w.heap.size + 1)) (n - 1 - 1) P (Exit.then K (fun _ _ _ => False)) { tmps := (ps.zip (encs x)).foldl (fun t (p, v) => t.setIfInBounds p v) a.tmps, defers := [] } W)
    (hbody : ∀ s x a' V r, Bk w.heap.size r V → Ax s x a' V → body.wpIn (Fence.wide.inRound (w.heap.size + 1)) (n - 1 - 1) P (Goes w.heap.size (J (s ++ [x])) Kp V) a' V)
    (hiter : ∀ r W1, Bk w.heap.size r W1 → W1 = (w.alloc (.deferred (some []))).alloc (.loop r) →
      (∀ s x W, Bk w.heap.size r W → J s W → Px s x W → YieldAt Fence.wide (n - 1 - 1) P (w.heap.size + 1) (encs x) W fun e W' => e = .returned (.bool true) ∧ Bk w.heap.size r W' ∧ J (s ++ [x]) W' ∧ Kp W W') →
      CallsIn Fence.wide (n - 1) P gf (#[.func (.yield (w.heap.size + 1)) #[] #[]] ++ lb) W1 fun e W' => (∃ v, e = .returned v) ∧ Bk w.heap.size r W' ∧
        ∀ r', Q .normal { a with defers := { target := .collected w.heap.size, args := #[] } :: a.defers } (W'.putObj (w.heap.size + 1) (.loop r'))) :
    (Code.rangeFunc g ps assign body).wpIn Fence.wide n P Q a w := by
  refine wpIn_rangeFunc ?_
  intro fn hfn
  have hl1 : ((w.alloc (.deferred (some []))).alloc (.loop { state := .ready, pending := none, fn, tmps := a.tmps, params := ps, assign, body, defers := w.heap.size })).heap[w.heap.size + 1]? = some (.loop { state := .ready, pending := none, fn, tmps := a.tmps, params := ps, assign, body, defers := w.heap.size }) := by
    have := World.alloc_heap_new (w.alloc (.deferred (some []))) (.loop { state := .ready, pending := none, fn, tmps := a.tmps, params := ps, assign, body, defers := w.heap.size })
    rwa [World.size_alloc] at this
  have hd1 : ((w.alloc (.deferred (some []))).alloc (.loop { state := .ready, pending := none, fn, tmps := a.tmps, params := ps, assign, body, defers := w.heap.size })).heap[w.heap.size]? = some (.deferred (some [])) :=
    (Below.heap_alloc _ _ _ (by simp)).trans (World.alloc_heap_new w _)
  obtain ⟨W1, hW1⟩ : ∃ W1, (w.alloc (.deferred (some []))).alloc (.loop { state := .ready, pending := none, fn, tmps := a.tmps, params := ps, assign, body, defers := w.heap.size }) = W1 := ⟨_, rfl⟩
  have hen := run_enterLoop_outer (P := P) (w := w) fn a.tmps ps assign body
  rw [hW1] at hen hl1 hd1
  refine ⟨w.heap.size + 1, [{ target := .collected w.heap.size, args := #[] }], W1, { target := .fn (.func gf) lb, args := #[.func (.yield (w.heap.size + 1)) #[] #[]] }, W1, gf,
    #[.func (.yield (w.heap.size + 1)) #[] #[]] ++ lb, W1, hen, ?_, fun _ _ => trivial, ?_, fun h => (by simp [Fence.wide] at h), ?_⟩
  · simp only [resolve, hg]
    simp [go_sem]
  · simp [invoke, go_sem, eg]
  · refine (hiter _ _ ⟨hd1, hl1⟩ hW1.symm ?_).mono ?_
    · intro s x W hk hj hp
      have hy := run_yield (P := P) (args := encs x) hk.lp (hps x)
      refine ⟨fn, _, assign, body, hy, roundIn_of_wpIn trivial (hassign s x W _ _ hk hj hp ?_)⟩
      intro a' Wa hb hka hax
      have hk2 := hk.below hb
      refine ⟨_, run_beginRound hk2.lp rfl, ?_⟩
      have hk3 := hk2.put { state := .busy, pending := none, fn, tmps := a.tmps, params := ps, assign, body, defers := w.heap.size }
      refine wpIn_mono (hbody s x a' _ _ hk3 (hA s x a' _ _ _ hk2 hax)) ?_
      rintro e a3 W3 hp3
      cases e with
      | normal =>
        obtain ⟨hbk, hkp, hj3⟩ := hp3
        have hk4 := hbk _ hk3
        exact ⟨_, _, run_endRound none hk4.lp, rfl, hk4.put _, hJ _ _ _ _ hk4 hj3, hKt _ _ _ hka (hKt _ _ _ (hKb _ _ _ hk2) (hKt _ _ _ hkp (hKb _ _ _ hk4)))⟩
      | ret => exact hp3.elim
      | exit id => exact hp3.elim
      | goto t => exact hp3.elim
      | panic ch => exact hp3.elim
      | outgrown => exact hp3.elim
    · rintro e W2 ⟨⟨v, rfl⟩, hk, hq⟩
      exact ⟨none, _, run_endLoop hk.lp (by simp), hq _⟩
theorem below_putLoop {W w : World} {D B : Nat} {r : Loop} (h : Below B w W) (hk : Bk D r W) (hB : B ≤ D + 1) (r' : Obj) : Below B w (W.putObj (D + 1) r') :=
  h.trans ⟨rfl, rfl, rfl, by simp, fun k hk => World.putObj_heap_other (by omega)⟩
/-- a block of cells stays -/
theorem cells_putLoop {W : World} {D k : Nat} {r : Loop} {cur : Array Value} {t : TypeId} {fz : Nat × Nat} (h : W.heap[k]? = some (.cells cur t fz)) (hk : Bk D r W) (r' : Loop) : (W.putObj (D + 1) (.loop r')).heap[k]? = some (.cells cur t fz) := by
  have hb : k ≠ D + 1 := fun e => by rw [e, hk.lp] at h; simp at h
  rw [World.putObj_heap_other hb]
  exact h
theorem below_putDfr {W w : World} {D B : Nat} (h : Below B w W) (hB : B ≤ D) (o : Obj) : Below B w (W.putObj D o) :=
  h.trans ⟨rfl, rfl, rfl, by simp, fun k hk => World.putObj_heap_other (by omega)⟩
theorem cells_putDfr {W : World} {D k : Nat} {r : Loop} {cur : Array Value} {t : TypeId} {fz : Nat × Nat} (h : W.heap[k]? = some (.cells cur t fz)) (hk : Bk D r W) (o : Obj) : (W.putObj D o).heap[k]? = some (.cells cur t fz) := by
  have hb : k ≠ D := fun e => by rw [e, hk.dfr] at h; simp at h
  rw [World.putObj_heap_other hb]
  exact h
theorem ownsRow_keep {w w' : World} {base : Nat} {e : TypeId} {size : Nat} {v : Value} {n : Nat} {xs : List Value} (h : w.ownsRow base e size v n xs) (hb : ∀ (k : Nat) cur t fz, w.heap[k]? = some (Obj.cells cur t fz) → w'.heap[k]? = some (Obj.cells cur t fz)) : w'.ownsRow base e size v n xs := by
  refine ⟨h.1, ?_⟩
  rcases h.2 with h0 | ⟨g, cap, cur, hv, hg, hc, rest⟩
  · exact Or.inl h0
  · exact Or.inr ⟨g, cap, cur, hv, hg, hb g _ _ _ hc, rest⟩
theorem Bk.others {D : Nat} {r : Loop} {V W : World} (h : Bk D r V) (k : KeepsOthers V W) : Bk D r W := ⟨k.same _ _ h.dfr rfl, k.same _ _ h.lp rfl⟩
/-- the record of a loop that has returned -/
def stpL (r : Loop) : Loop := { r with state := .done, pending := some .ret }
/-- a round that goes on, or returns -/
def GoesR (D : Nat) (J R : World → Prop) (Kp : World → World → Prop) (V : World) : Exit → Act → World → Prop
  | .normal, _, W => (∀ r, Bk D r V → Bk D r W) ∧ Kp V W ∧ J W
  | .ret, _, W => (∀ r, Bk D r V → Bk D r W) ∧ R W
  | _, _, _ => False


theorem range_ret {α : Type} {g : Operand} {ps : Array Tmp} {assign body : Code} {Q : Exit → Act → World → Prop} {a : Act} {w : World} {gf : Nat} {lb : Array Value}
    (hg : a.eval g = .func (.func gf) #[] lb) (eg : ∀ args w, (callFunc gf args).run P w = .ok (.enter gf args) w)
    (encs : α → Array Value) (hps : ∀ x, (encs x).size = ps.size)
    (J : List α → World → Prop) (R : World → Prop) (Px : List α → α → World → Prop) (Kp : World → World → Prop) (Ax : List α → α → Act → World → Prop)
    (hJ : ∀ s W r r', Bk w.heap.size r W → J s W → J s (W.putObj (w.heap.size + 1) (.loop r')))
    (hR : ∀ W r r', Bk w.heap.size r W → R W → R (W.putObj (w.heap.size + 1) (.loop r')))
    (hA : ∀ s x a' W r r', Bk w.heap.size r W → Ax s x a' W → Ax s x a' (W.putObj (w.heap.size + 1) (.loop r')))
    (hKb : ∀ W r r', Bk w.heap.size r W → Kp W (W.putObj (w.heap.size + 1) (.loop r'))) (hKt : ∀ A B C, Kp A B → Kp B C → Kp A C)
    (hassign : ∀ s x W r (K : Act → World → Prop), Bk w.heap.size r W → J s W → Px s x W → (∀ a' W', Below W.heap.size W W' → Kp W W' → Ax s x a' W' → K a' W') →
      assign.wpIn (Fence.wide.inRound (w.heap.size + 1)) (n - 1 - 1) P (Exit.then K (fun _ _ _ => False)) { tmps := (ps.zip (encs x)).foldl (fun t (p, v) => t.setIfInBounds p v) a.tmps, defers := [] } W)
    (hbody : ∀ s x a' V r, Bk w.heap.size r V → Ax s x a' V → body.wpIn (Fence.wide.inRound (w.heap.size + 1)) (n - 1 - 1) P (GoesR w.heap.size (J (s ++ [x])) R Kp V) a' V)
    (hiter : ∀ r W1, Bk w.heap.size r W1 → W1 = (w.alloc (.deferred (some []))).alloc (.loop r) →
      (∀ s x W, Bk w.heap.size r W → J s W → Px s x W → YieldAt Fence.wide (n - 1 - 1) P (w.heap.size + 1) (encs x) W fun e W' => (e = .returned (.bool true) ∧ Bk w.heap.size r W' ∧ J (s ++ [x]) W' ∧ Kp W W') ∨ (e = .returned (.bool false) ∧ Bk w.heap.size (stpL r) W' ∧ R W')) →
      CallsIn Fence.wide (n - 1) P gf (#[.func (.yield (w.heap.size + 1)) #[] #[]] ++ lb) W1 fun e W' => (∃ v, e = .returned v) ∧
        ((Bk w.heap.size r W' ∧ ∀ r', Q .normal { a with defers := { target := .collected w.heap.size, args := #[] } :: a.defers } (W'.putObj (w.heap.size + 1) (.loop r'))) ∨
         (Bk w.heap.size (stpL r) W' ∧ ∀ r', Code.ret.wpIn Fence.wide n P Q { a with defers := { target := .collected w.heap.size, args := #[] } :: a.defers } (W'.putObj (w.heap.size + 1) (.loop r'))))) :
    (Code.rangeFunc g ps assign body).wpIn Fence.wide n P Q a w := by
  refine wpIn_rangeFunc ?_
  intro fn hfn
  have hl1 : ((w.alloc (.deferred (some []))).alloc (.loop { state := .ready, pending := none, fn, tmps := a.tmps, params := ps, assign, body, defers := w.heap.size })).heap[w.heap.size + 1]? = some (.loop { state := .ready, pending := none, fn, tmps := a.tmps, params := ps, assign, body, defers := w.heap.size }) := by
    have := World.alloc_heap_new (w.alloc (.deferred (some []))) (.loop { state := .ready, pending := none, fn, tmps := a.tmps, params := ps, assign, body, defers := w.heap.size })
    rwa [World.size_alloc] at this
  have hd1 : ((w.alloc (.deferred (some []))).alloc (.loop { state := .ready, pending := none, fn, tmps := a.tmps, params := ps, assign, body, defers := w.heap.size })).heap[w.heap.size]? = some (.deferred (some [])) :=
    (Below.heap_alloc _ _ _ (by simp)).trans (World.alloc_heap_new w _)
  obtain ⟨W1, hW1⟩ : ∃ W1, (w.alloc (.deferred (some []))).alloc (.loop { state := .ready, pending := none, fn, tmps := a.tmps, params := ps, assign, body, defers := w.heap.size }) = W1 := ⟨_, rfl⟩
  have hen := run_enterLoop_outer (P := P) (w := w) fn a.tmps ps assign body
  rw [hW1] at hen hl1 hd1
  refine ⟨w.heap.size + 1, [{ target := .collected w.heap.size, args := #[] }], W1, { target := .fn (.func gf) lb, args := #[.func (.yield (w.heap.size + 1)) #[] #[]] }, W1, gf,
    #[.func (.yield (w.heap.size + 1)) #[] #[]] ++ lb, W1, hen, ?_, fun _ _ => trivial, ?_, fun h => (by simp [Fence.wide] at h), ?_⟩
  · simp only [resolve, hg]
    simp [go_sem]
  · simp [invoke, go_sem, eg]
  · refine (hiter _ _ ⟨hd1, hl1⟩ hW1.symm ?_).mono ?_
    · intro s x W hk hj hp
      have hy := run_yield (P := P) (args := encs x) hk.lp (hps x)
      refine ⟨fn, _, assign, body, hy, roundIn_of_wpIn trivial (hassign s x W _ _ hk hj hp ?_)⟩
      intro a' Wa hb hka hax
      have hk2 := hk.below hb
      refine ⟨_, run_beginRound hk2.lp rfl, ?_⟩
      have hk3 := hk2.put { state := .busy, pending := none, fn, tmps := a.tmps, params := ps, assign, body, defers := w.heap.size }
      refine wpIn_mono (hbody s x a' _ _ hk3 (hA s x a' _ _ _ hk2 hax)) ?_
      rintro e a3 W3 hp3
      cases e with
      | normal =>
        obtain ⟨hbk, hkp, hj3⟩ := hp3
        have hk4 := hbk _ hk3
        exact ⟨_, _, run_endRound none hk4.lp, Or.inl ⟨rfl, hk4.put _, hJ _ _ _ _ hk4 hj3, hKt _ _ _ hka (hKt _ _ _ (hKb _ _ _ hk2) (hKt _ _ _ hkp (hKb _ _ _ hk4)))⟩⟩
      | ret =>
        obtain ⟨hbk, hr3⟩ := hp3
        have hk4 := hbk _ hk3
        exact ⟨_, _, run_endRound (some .ret) hk4.lp, Or.inr ⟨rfl, hk4.put _, hR _ _ _ hk4 hr3⟩⟩
      | exit id => exact hp3.elim
      | goto t => exact hp3.elim
      | panic ch => exact hp3.elim
      | outgrown => exact hp3.elim
    · rintro e W2 ⟨⟨v, rfl⟩, ⟨hk, hq⟩ | ⟨hk, hq⟩⟩
      · exact ⟨none, _, run_endLoop hk.lp (by simp), hq _⟩
      · exact ⟨some .ret, _, run_endLoop hk.lp (by simp [stpL]), hq _⟩
/-- the places of what forced a mark -/
def cauL (C : List (List Int)) (M : List Mk) (p : Nat) : List Int := ((C.getD (M.getD p default).r.toNat []).filter (fun x => x != (M.getD p default).l)).map (fun x => plV M (-x))
def cauT (M : List Mk) (l : Int) (c : List Int) : List Int := (c.filter (fun x => x != l)).map (fun x => plV M (-x))
theorem cauT_snoc (M : List Mk) (l : Int) (c : List Int) (y : Int) : cauT M l (c ++ [y]) = if y != l then cauT M l c ++ [plV M (-y)] else cauT M l c := by
  unfold cauT
  rw [List.filter_append, List.map_append]
  cases h : (y != l) <;> simp [List.filter_cons, h]
theorem cauT_le (M : List Mk) (l : Int) (c : List Int) (k : Nat) : (cauT M l (c.take k)).length ≤ k := by
  unfold cauT
  rw [List.length_map]
  exact Nat.le_trans (List.length_filter_le _ _) (by rw [List.length_take]; omega)
/-- what a round leaves alone: copies of marks -/
def KM (W W' : World) : Prop := ∀ (x : Nat) (cs : Array Value), W.heap[x]? = some (Obj.cells cs 46 (0, 0)) → W'.heap[x]? = W.heap[x]?
theorem KM.refl (W : World) : KM W W := fun _ _ _ => rfl
theorem KM.trans {A B C : World} (h : KM A B) (k : KM B C) : KM A C := fun x cs e => (k x cs ((h x cs e).trans e)).trans (h x cs e)
theorem KM.below {W W' : World} (h : Below W.heap.size W W') : KM W W' := fun x cs e => h.block x (Array.getElem?_eq_some_iff.1 e).1
theorem KM.putLoop {D : Nat} {W : World} {r : Loop} (hk : Bk D r W) (r' : Loop) : KM W (W.putObj (D + 1) (.loop r')) := fun x cs e => by
  refine World.putObj_heap_other fun q => ?_
  subst q
  rw [hk.lp] at e
  cases e
set_option maxHeartbeats 2000000 in
set_option maxRecDepth 100000 in
theorem causes_is (b p : Nat) (w : World) :
    Calls Try.prog 65 #[.pointer (some ⟨b, 0, none⟩), .int .i64 (p : Int)] w fun e w' => ∃ p1 p2, e = .returned (.func (.func 77) #[] #[.pointer (some ⟨p1, 0, none⟩), .pointer (some ⟨p2, 0, none⟩)]) ∧ w'.cell? ⟨p1, 0, none⟩ = some (.pointer (some ⟨b, 0, none⟩)) ∧ w'.cell? ⟨p2, 0, none⟩ = some (.int .i64 (p : Int)) ∧ w.heap.size ≤ p1 ∧ w.heap.size ≤ p2 ∧ Below w.heap.size w w' := by
  obtain ⟨w1, hw1⟩ : ∃ w1, w.alloc (.cells #[.pointer (some ⟨b, 0, none⟩)] 50) = w1 := ⟨_, rfl⟩
  have b1 := below_alloc (w := w) (.cells #[.pointer (some ⟨b, 0, none⟩)] 50)
  have n1 := heap_alloc_new w (.cells #[.pointer (some ⟨b, 0, none⟩)] 50)
  have s1 := size_alloc w (.cells #[.pointer (some ⟨b, 0, none⟩)] 50)
  rw [hw1] at b1 n1 s1
  obtain ⟨w2, hw2⟩ : ∃ w2, w1.alloc (.cells #[.int .i64 (p : Int)] 3) = w2 := ⟨_, rfl⟩
  have b2 := below_alloc (w := w1) (.cells #[.int .i64 (p : Int)] 3)
  have n2 := heap_alloc_new w1 (.cells #[.int .i64 (p : Int)] 3)
  rw [hw2] at b2 n2
  have k1 := below_cell b2 (show w1.cell? ⟨w.heap.size, 0, none⟩ = some (.pointer (some ⟨b, 0, none⟩)) from cell_of_row w1 w.heap.size 0 _ _ _ n1)
  have k2 := cell_of_row w2 w1.heap.size 0 _ _ _ n2
  simp only [List.getElem?_toArray, List.getElem?_cons_zero, List.getElem?_cons_succ] at k1 k2
  have HX := hide' (And.intro k1 (And.intro k2 (And.intro s1 (b1.trans (b2.mono b1.size)))))
  clear b1 b2 n1 n2 s1 k1 k2
  go_enter Try.func65, Try.ntmps65
  go_wp2
  try rw [hw1]
  try rw [hw2]
  go_ret
  exact ⟨w.heap.size, w1.heap.size, by first | rfl | (rw [HX.out.2.2.1]; rfl), HX.out.1, HX.out.2.1, Nat.le_refl _, by have := HX.out.2.2.1; omega, HX.out.2.2.2⟩
set_option maxRecDepth 100000 in
set_option maxHeartbeats 8000000 in
theorem causes1_is (D : Nat) (r : Loop) (w W1 : World) (p1 p2 : Nat) (base b G N : Nat) (a : Option Addr) (ca : Nat) (C : List (List Int)) (f : Nat → Option Addr × Nat) (ma : Option Addr) (mc : Nat) (M : List Mk) (p ρ : Nat) (J : List Int → World → Prop) (X : World → Prop)
    (hT : TrR w base b G N (.slice a C.length ca) (.slice ma M.length mc) (plA M)) (hd : Dst M) (hC : CsAt w a C f) (hM : MsAt w ma M) (hp : p < M.length) (hM9 : M.length ≤ 1048575) (hρ : (M.getD p default).r = (ρ : Int)) (hρC : ρ < C.length) (hfl : ∀ x ∈ C.getD ρ [], x ≠ (M.getD p default).l → flsV M x = true)
    (hbel : ∀ s W, J s W → Below w.heap.size w W) (hbox : ∀ s W, J s W → W.cell? ⟨p1, 0, none⟩ = some (.pointer (some ⟨b, 0, none⟩)) ∧ W.cell? ⟨p2, 0, none⟩ = some (.int .i64 (p : Int))) (hJb : ∀ s W W', J s W → Below W.heap.size W W' → J s W')
    (hJ0 : J [] W1) (hk : Bk D r W1)
    (hY : ∀ (s : List Int) (x : Int) (W : World), Bk D r W → J s W → (0 ≤ x ∧ x < (M.length : Int) ∧ s.length < (C.getD ρ []).length) → YieldAt Fence.wide 1 Try.prog (D + 1) #[.int .i64 x] W fun e W' => (e = .returned (.bool true) ∧ Bk D r W' ∧ J (s ++ [x]) W' ∧ KM W W') ∨ (e = .returned (.bool false) ∧ X W')) :
    CallsIn Fence.wide 2 Try.prog 77 #[.func (.yield (D + 1)) #[] #[], .pointer (some ⟨p1, 0, none⟩), .pointer (some ⟨p2, 0, none⟩)] W1 fun e W' => (∃ v, e = .returned v) ∧ ((Bk D r W' ∧ J (cauL C M p) W') ∨ X W') := by
  have HY := hide' hY
  have HB := hide' hbel
  have HBX := hide' hbox
  have HJB := hide' hJb
  clear hY hbel hbox hJb
  refine callsIn_wide.2 ?_
  obtain ⟨q1, q2⟩ := HBX.out _ _ hJ0
  have hb1 := HB.out _ _ hJ0
  have c1 := below_cell hb1 hT.c1
  have c0 := below_cell hb1 hT.c0
  obtain ⟨bq, off, rfl, ⟨k0, k1, k2⟩, hok⟩ := hM.el rfl hp
  replace k0 := below_cell hb1 k0
  replace k1 := below_cell hb1 k1
  replace k2 := below_cell hb1 k2
  clear hb1
  obtain ⟨n, hn⟩ : ∃ n, M.length = n := ⟨_, rfl⟩
  obtain ⟨Cn, hCn⟩ : ∃ n, C.length = n := ⟨_, rfl⟩
  have HE := hide' (show cauL C M p = cauT M (M.getD p default).l (C.getD ρ []) from by unfold cauL cauT; rw [hρ, Int.toNat_natCast])
  obtain ⟨bc, oc, hae, cK, hL⟩ := hC.el rfl hρC
  have HP := hide' (fun x (hx : i64 x) (hf : flsV M x = true) (q : Nat) (hq : plV M (-x) = q) (hql : q ≤ 1048576) wq (hb : Below w.heap.size w wq) => placeOf_is base b G N (.slice a C.length ca) (.slice (some ⟨bq, off, none⟩) M.length mc) M x hx hf q hq hql wq (hT.later hb) hd)
  subst hae
  rw [hCn] at c0 hρC
  rw [hn] at c1 hp hM9
  have HN := hide' (And.intro hn hCn)
  have HCK := hide' (fun W (hb : Below w.heap.size w W) => And.intro (below_cell hb cK) (hL.later hb))
  have HT := hide' hT
  clear hC hT hM cK hL hok hn hCn
  obtain ⟨c, hc⟩ : ∃ c, C.getD ρ [] = c := ⟨_, rfl⟩
  rw [hc] at HCK HE hfl
  have HFL := hide' hfl
  clear hfl
  replace hc := hide' hc
  obtain ⟨l0, hl0⟩ : ∃ l, (M.getD p default).l = l := ⟨_, rfl⟩
  rw [hl0] at k0 HE HFL
  rw [hρ] at k2
  generalize (M.getD p default).v = v0 at k1
  clear hl0 hρ
  obtain ⟨⟨f1, f2⟩, hf12⟩ : ∃ x, f ρ = x := ⟨_, rfl⟩
  rw [hf12] at HCK
  clear hf12
  simp only at HCK
  obtain ⟨L, hLn⟩ : ∃ L, c.length = L := ⟨_, rfl⟩
  have hLm := (HCK.out w (Below.refl _ _)).2.1
  rw [hLn] at HCK hLm
  replace hLn := hide' hLn
  have HJ := hide' hJ0
  have HK := hide' hk
  clear hJ0 hk
  have pi1 : (p : Int) < (n : Int) := by omega
  have pi0 : (0 : Int) ≤ (p : Int) := by omega
  have ri1 : (ρ : Int) < (Cn : Int) := by omega
  have ri0 : (0 : Int) ≤ (ρ : Int) := by omega
  go_enter Try.func77, Try.ntmps77
  go_wp2_with fail
  have bT : Below W1.heap.size W1 W1 := Below.refl _ _
  have bD : Below W1.heap.size W1 W1.drew := (Below.refl _ _).drew
  have kq1 := below_cell bD q1
  have kq2 := below_cell bD q2
  have kc1 := below_cell bD c1
  have kk0 := below_cell bD k0
  have kk1 := below_cell bD k1
  have kk2 := below_cell bD k2
  replace bT := bT.trans (bD.mono bT.size)
  refine wp_region_held_drew (S := fun w' => w'.cell? ⟨p1, 0, none⟩ = some (.pointer (some ⟨b, 0, none⟩)) ∧ w'.cell? ⟨p2, 0, none⟩ = some (.int .i64 (p : Int)) ∧ w'.cell? ⟨b, 1, none⟩ = some (.slice (some ⟨bq, off, none⟩) n mc) ∧ w'.cell? ⟨bq, off + p * 3, none⟩ = some (.int .i64 l0) ∧ w'.cell? ⟨bq, off + p * 3 + 1, none⟩ = some (.int .i64 v0) ∧ w'.cell? ⟨bq, off + p * 3 + 2, none⟩ = some (.int .i64 (ρ : Int))) (by kernel_rfl) ⟨kq1, kq2, kc1, kk0, kk1, kk2⟩ (fun hHeld => ?_)
  clear kq1 kq2 kc1 kk0 kk1 kk2
  generalize W1.drew = wD at bD bT hHeld ⊢
  clear bD
  refine take' 0 (v := ?_) rfl (by kernel_rfl) (by kernel_rfl) (by kernel_rfl) (fun _ _ _ h => h) (Or.inl ⟨by rfl, ?_⟩) (by assumption) ?_
  rotate_left
  · intro w9 hSw
    go_simp
    first | done | with_reducible rfl
  simp only [Act.put, List.setIfInBounds_toArray, List.set_cons_zero, List.set_cons_succ]
  refine take' 1 (v := ?_) rfl (by kernel_rfl) (by kernel_rfl) (by kernel_rfl) (fun _ _ _ h => h) (Or.inl ⟨by rfl, ?_⟩) (by assumption) ?_
  rotate_left
  · intro w9 hSw
    go_simp
    first | done | with_reducible rfl
  simp only [Act.put, List.setIfInBounds_toArray, List.set_cons_zero, List.set_cons_succ]
  refine take' 2 (v := ?_) rfl (by kernel_rfl) (by kernel_rfl) (by kernel_rfl) (fun _ _ _ h => h) (Or.inl ⟨by rfl, ?_⟩) (by assumption) ?_
  rotate_left
  · intro w9 hSw
    go_simp
    first | done | with_reducible rfl
  simp only [Act.put, List.setIfInBounds_toArray, List.set_cons_zero, List.set_cons_succ]
  refine take' 3 (v := ?_) rfl (by kernel_rfl) (by kernel_rfl) (by kernel_rfl) (fun _ _ _ h => h) (Or.inl ⟨by rfl, ?_⟩) (by assumption) ?_
  rotate_left
  · intro w9 hSw
    go_simp
    first | done | with_reducible rfl
  simp only [Act.put, List.setIfInBounds_toArray, List.set_cons_zero, List.set_cons_succ]
  refine take' 4 (v := ?_) rfl (by kernel_rfl) (by kernel_rfl) (by kernel_rfl) (fun _ _ _ h => h) (Or.inl ⟨by rfl, ?_⟩) (by assumption) ?_
  rotate_left
  · intro w9 hSw
    go_simp
    first | done | with_reducible rfl
  simp only [Act.put, List.setIfInBounds_toArray, List.set_cons_zero, List.set_cons_succ]
  refine take' 5 (v := ?_) rfl (by kernel_rfl) (by kernel_rfl) (by kernel_rfl) (fun _ _ _ h => h) (Or.inl ⟨by rfl, ?_⟩) (by assumption) ?_
  rotate_left
  · intro w9 hSw
    go_simp
    first | done | with_reducible rfl
  simp only [Act.put, List.setIfInBounds_toArray, List.set_cons_zero, List.set_cons_succ]
  refine take' 6 (v := ?_) rfl (by kernel_rfl) (by kernel_rfl) (by kernel_rfl) (fun _ _ _ h => h) (Or.inl ⟨by rfl, ?_⟩) (by assumption) ?_
  rotate_left
  · intro w9 hSw
    go_simp
    first | done | with_reducible rfl
  simp only [Act.put, List.setIfInBounds_toArray, List.set_cons_zero, List.set_cons_succ]
  refine wpAnyH_ready (rs := [7]) (by kernel_rfl) (by simp) ?_
  refine cons' rfl (fun KK hKK => ?_)
  go_simp
  have hnew := heap_alloc_new wD (.cells #[.int .i64 0, .int .i64 0, .int .i64 0] 46)
  have b3 := below_alloc (w := wD) (.cells #[.int .i64 0, .int .i64 0, .int .i64 0] 46)
  have hna0 : W1.heap.size ≤ wD.heap.size := bT.size
  obtain ⟨na, hna⟩ : ∃ na, wD.heap.size = na := ⟨_, rfl⟩
  rw [hna] at hnew hna0
  try rw [hna]
  have hl0 : (p1) ≠ na := by have h9 := World.block_lt_of_cell? wD _ hHeld.1; simp only at h9; omega
  have hl1 : (p2) ≠ na := by have h9 := World.block_lt_of_cell? wD _ hHeld.2.1; simp only at h9; omega
  have hl2 : (b) ≠ na := by have h9 := World.block_lt_of_cell? wD _ hHeld.2.2.1; simp only at h9; omega
  have hl3 : (bq) ≠ na := by have h9 := World.block_lt_of_cell? wD _ hHeld.2.2.2.1; simp only at h9; omega
  have hl4 : (bq) ≠ na := by have h9 := World.block_lt_of_cell? wD _ hHeld.2.2.2.2.1; simp only at h9; omega
  have hl5 : (bq) ≠ na := by have h9 := World.block_lt_of_cell? wD _ hHeld.2.2.2.2.2; simp only at h9; omega
  generalize wD.alloc (.cells #[.int .i64 0, .int .i64 0, .int .i64 0] 46) = wE at hnew b3 ⊢
  replace hnew : wE.heap[na]? = _ := hnew
  replace bT := bT.trans (b3.mono bT.size)
  replace hHeld := (⟨below_cell b3 hHeld.1, below_cell b3 hHeld.2.1, below_cell b3 hHeld.2.2.1, below_cell b3 hHeld.2.2.2.1, below_cell b3 hHeld.2.2.2.2.1, below_cell b3 hHeld.2.2.2.2.2⟩ : _ ∧ _ ∧ _ ∧ _ ∧ _ ∧ _)
  clear b3 hna
  refine hKK.out _ _ hHeld ?_
  clear hHeld
  intro hHeld
  clear hKK KK
  try simp only [Act.put, List.setIfInBounds_toArray, List.set_cons_zero, List.set_cons_succ]
  refine wpAnyH_ready (rs := [8]) (by kernel_rfl) (by simp) ?_
  refine cons' rfl (fun KK hKK => ?_)
  have z0 := cell_of_row wE na 0 _ _ _ hnew
  have z1 := cell_of_row wE na 1 _ _ _ hnew
  have z2 := cell_of_row wE na 2 _ _ _ hnew
  simp only [List.getElem?_toArray, List.getElem?_cons_zero, List.getElem?_cons_succ] at z0 z1 z2
  have fz := fun o => frozen_of_row wE na o _ _ hnew
  obtain ⟨wF, hwF⟩ : ∃ wF, (((wE.setCell ⟨na, 0, none⟩ (.int .i64 l0)).setCell ⟨na, 1, none⟩ (.int .i64 v0)).setCell ⟨na, 2, none⟩ (.int .i64 (ρ : Int))) = wF := ⟨_, rfl⟩
  have hoth : ∀ x, x ≠ na → wF.heap[x]? = wE.heap[x]? := fun x hx => by rw [← hwF]; exact ((heap_setCell_other _ _ _ _ hx).trans (heap_setCell_other _ _ _ _ hx)).trans (heap_setCell_other _ _ _ _ hx)
  have hFn : wF.heap[na]? = some (.cells #[.int .i64 l0, .int .i64 v0, .int .i64 (ρ : Int)] 46 (0, 0)) := by rw [← hwF]; simp [World.setCell, Array.getElem?_modify, hnew]
  have bF : Below W1.heap.size W1 wF := bT.trans ⟨by rw [← hwF]; rfl, by rw [← hwF]; rfl, by rw [← hwF]; rfl, by rw [← hwF, World.size_setCell, World.size_setCell, World.size_setCell]; exact Nat.le_refl _, fun x hx => hoth x (by omega)⟩
  have hH2 := (⟨(World.cell?_of_block (w := wE) (hoth _ hl0)).trans hHeld.1, (World.cell?_of_block (w := wE) (hoth _ hl1)).trans hHeld.2.1, (World.cell?_of_block (w := wE) (hoth _ hl2)).trans hHeld.2.2.1, (World.cell?_of_block (w := wE) (hoth _ hl3)).trans hHeld.2.2.2.1, (World.cell?_of_block (w := wE) (hoth _ hl4)).trans hHeld.2.2.2.2.1, (World.cell?_of_block (w := wE) (hoth _ hl5)).trans hHeld.2.2.2.2.2⟩ : wF.cell? ⟨p1, 0, none⟩ = some (.pointer (some ⟨b, 0, none⟩)) ∧ wF.cell? ⟨p2, 0, none⟩ = some (.int .i64 (p : Int)) ∧ wF.cell? ⟨b, 1, none⟩ = some (.slice (some ⟨bq, off, none⟩) n mc) ∧ wF.cell? ⟨bq, off + p * 3, none⟩ = some (.int .i64 l0) ∧ wF.cell? ⟨bq, off + p * 3 + 1, none⟩ = some (.int .i64 v0) ∧ wF.cell? ⟨bq, off + p * 3 + 2, none⟩ = some (.int .i64 (ρ : Int)))
  have HFN := hide' hFn
  have HBF := hide' bF
  clear bT bF hFn hoth hl0 hl1 hl2 hl3 hl4 hl5
  go_simp
  try rw [hwF]
  refine hKK.out _ _ hH2 ?_
  clear hHeld
  intro hHeld
  clear hKK KK
  try simp only [Act.put, List.setIfInBounds_toArray, List.set_cons_zero, List.set_cons_succ]
  clear hH2 z0 z1 z2 fz hnew hwF
  refine wpAnyH_done (by kernel_rfl) ?_ _
  obtain ⟨q1, q2, c1, k0, k1, k2⟩ := hHeld
  clear c1 k0 k1 k2
  have q3 := cell_of_row wF na 0 _ _ _ HFN.out
  have q4 := cell_of_row wF na 2 _ _ _ HFN.out
  simp only [List.getElem?_toArray, List.getElem?_cons_zero, List.getElem?_cons_succ] at q3 q4
  replace c0 := below_cell HBF.out c0
  have HJF := hide' (HJB.out _ _ _ HJ.out HBF.out)
  have HKF := hide' (HK.out.below HBF.out)
  clear HJ HK HBF
  have hb2 := HB.out _ _ HJF.out
  have cK := (HCK.out wF hb2).1
  clear hb2
  go_wp2_with fail
  have bT : Below wF.heap.size wF wF := Below.refl _ _
  have bD : Below wF.heap.size wF wF.drew := (Below.refl _ _).drew
  have kq1 := below_cell bD q1
  have kc0 := below_cell bD c0
  have kq4 := below_cell bD q4
  have kcK := below_cell bD cK
  replace bT := bT.trans (bD.mono bT.size)
  refine wp_region_held_drew (S := fun w' => w'.cell? ⟨p1, 0, none⟩ = some (.pointer (some ⟨b, 0, none⟩)) ∧ w'.cell? ⟨b, 0, none⟩ = some (.slice (some ⟨bc, oc, none⟩) Cn ca) ∧ w'.cell? ⟨na, 2, none⟩ = some (.int .i64 (ρ : Int)) ∧ w'.cell? ⟨bc, oc + ρ, none⟩ = some (.slice f1 L f2)) (by kernel_rfl) ⟨kq1, kc0, kq4, kcK⟩ (fun hHeld => ?_)
  clear kq1 kc0 kq4 kcK
  generalize wF.drew = wG at bD bT hHeld ⊢
  clear bD
  refine take' 0 (v := ?_) rfl (by kernel_rfl) (by kernel_rfl) (by kernel_rfl) (fun _ _ _ h => h) (Or.inl ⟨by rfl, ?_⟩) (by assumption) ?_
  rotate_left
  · intro w9 hSw
    go_simp
    first | done | with_reducible rfl
  simp only [Act.put, List.setIfInBounds_toArray, List.set_cons_zero, List.set_cons_succ]
  refine take' 1 (v := ?_) rfl (by kernel_rfl) (by kernel_rfl) (by kernel_rfl) (fun _ _ _ h => h) (Or.inl ⟨by rfl, ?_⟩) (by assumption) ?_
  rotate_left
  · intro w9 hSw
    go_simp
    first | done | with_reducible rfl
  simp only [Act.put, List.setIfInBounds_toArray, List.set_cons_zero, List.set_cons_succ]
  refine take' 2 (v := ?_) rfl (by kernel_rfl) (by kernel_rfl) (by kernel_rfl) (fun _ _ _ h => h) (Or.inl ⟨by rfl, ?_⟩) (by assumption) ?_
  rotate_left
  · intro w9 hSw
    go_simp
    first | done | with_reducible rfl
  simp only [Act.put, List.setIfInBounds_toArray, List.set_cons_zero, List.set_cons_succ]
  refine take' 3 (v := ?_) rfl (by kernel_rfl) (by kernel_rfl) (by kernel_rfl) (fun _ _ _ h => h) (Or.inl ⟨by rfl, ?_⟩) (by assumption) ?_
  rotate_left
  · intro w9 hSw
    go_simp
    first | done | with_reducible rfl
  simp only [Act.put, List.setIfInBounds_toArray, List.set_cons_zero, List.set_cons_succ]
  refine take' 4 (v := ?_) rfl (by kernel_rfl) (by kernel_rfl) (by kernel_rfl) (fun _ _ _ h => h) (Or.inl ⟨by rfl, ?_⟩) (by assumption) ?_
  rotate_left
  · intro w9 hSw
    go_simp
    first | done | with_reducible rfl
  simp only [Act.put, List.setIfInBounds_toArray, List.set_cons_zero, List.set_cons_succ]
  refine take' 5 (v := ?_) rfl (by kernel_rfl) (by kernel_rfl) (by kernel_rfl) (fun _ _ _ h => h) (Or.inl ⟨by rfl, ?_⟩) (by assumption) ?_
  rotate_left
  · intro w9 hSw
    go_simp
    first | done | with_reducible rfl
  simp only [Act.put, List.setIfInBounds_toArray, List.set_cons_zero, List.set_cons_succ]
  refine take' 6 (v := ?_) rfl (by kernel_rfl) (by kernel_rfl) (by kernel_rfl) (fun _ _ _ h => h) (Or.inl ⟨by rfl, ?_⟩) (by assumption) ?_
  rotate_left
  · intro w9 hSw
    go_simp
    first | done | with_reducible rfl
  simp only [Act.put, List.setIfInBounds_toArray, List.set_cons_zero, List.set_cons_succ]
  refine take' 7 (v := ?_) rfl (by kernel_rfl) (by kernel_rfl) (by kernel_rfl) (fun _ _ _ h => h) (Or.inl ⟨by rfl, ?_⟩) (by assumption) ?_
  rotate_left
  · intro w9 hSw
    go_simp
    first | done | with_reducible rfl
  simp only [Act.put, List.setIfInBounds_toArray, List.set_cons_zero, List.set_cons_succ]
  refine take' 8 (v := ?_) rfl (by kernel_rfl) (by kernel_rfl) (by kernel_rfl) (fun _ _ _ h => h) (Or.inl ⟨by rfl, ?_⟩) (by assumption) ?_
  rotate_left
  · intro w9 hSw
    go_simp
    first | done | with_reducible rfl
  simp only [Act.put, List.setIfInBounds_toArray, List.set_cons_zero, List.set_cons_succ]
  refine take' 9 (v := ?_) rfl (by kernel_rfl) (by kernel_rfl) (by kernel_rfl) (fun _ _ _ h => h) (Or.inl ⟨by rfl, ?_⟩) (by assumption) ?_
  rotate_left
  · intro w9 hSw
    go_simp
    first | done | with_reducible rfl
  simp only [Act.put, List.setIfInBounds_toArray, List.set_cons_zero, List.set_cons_succ]
  refine wpAnyH_done (by kernel_rfl) ?_ _
  clear hHeld q1 q2 q3 q4 c0 cK
  have HJG := hide' (HJB.out _ _ _ HJF.out bT)
  have HKG := hide' (HKF.out.below bT)
  have HNG := hide' ((bT.block na (Array.getElem?_eq_some_iff.1 HFN.out).1).trans HFN.out)
  clear HJF HKF HFN bT
  go_wp2_with fail
  go_loopw [23] (fun vi wr => ∃ k : Nat, k ≤ L ∧ vi = .int .i64 (k : Int) ∧ J (cauT M l0 (c.take k)) wr ∧ Bk D r wr ∧ wr.heap[na]? = some (.cells #[.int .i64 l0, .int .i64 v0, .int .i64 (ρ : Int)] 46 (0, 0))) (fun vi _ => L - (intOf vi).toNat)
  case atStart => exact ⟨0, Nat.zero_le _, rfl, by rw [List.take_zero]; exact HJG.out, HKG.out, HNG.out⟩
  case round =>
    clear HJG HKG HNG
    obtain ⟨k, hk, rfl, hJ, hK, hN⟩ := hrel
    by_cases hlt : k < L
    · have hLs := (HCK.out wr (HB.out _ _ hJ)).2
      obtain ⟨bb, o3, hfe, ck, hlo, hhi⟩ := hLs.el hLn.out hlt
      subst hfe
      have HST := hide' (take_snoc c 0 hLn.out hlt)
      have HMEM := hide' (show c.getD k 0 ∈ c from getD_mem (by rw [hLn.out]; exact hlt))
      obtain ⟨y, hy⟩ : ∃ y, c.getD k 0 = y := ⟨_, rfl⟩
      rw [hy] at ck hlo hhi HST HMEM
      clear hy hLs
      have z0 := cell_of_row wr na 0 _ _ _ hN
      simp only [List.getElem?_toArray, List.getElem?_cons_zero, List.getElem?_cons_succ] at z0
      have i1 : (k : Int) < (L : Int) := by omega
      have i0 : (0 : Int) ≤ (k : Int) := by omega
      have HSN := hide' (cauT_snoc M l0 (c.take k) y)
      have HQ := hide' (And.intro hJ (And.intro hK hN))
      clear hJ hK hN
      by_cases hyl : y = l0
      · have e1 : (y != l0) = false := by simp [hyl]
        replace hyl := hide' hyl
        go_wp2
        go_roundw
        case rel => exact ⟨k + 1, by omega, by go_num, by rw [HST.out, HSN.out, e1, if_neg (by simp)]; exact HQ.out.1, HQ.out.2.1, HQ.out.2.2⟩
        case measure => simp only [intOf]; omega
      · have e1 : (y != l0) = true := by simp [hyl]
        have hf := HFL.out y HMEM.out hyl
        replace hyl := hide' hyl
        obtain ⟨hlit, q, hqM, hqv, _⟩ := flsV_at hf
        have GP := hide' (HP.out y ⟨hlo, hhi⟩ hf q hqv (by rw [HN.out.1] at hqM; omega) wr (HB.out _ _ HQ.out.1))
        rw [HN.out.1] at hqM
        obtain ⟨fn, tmps, assign, body, hy, hRR⟩ := HY.out (cauT M l0 (c.take k)) (q : Int) wr HQ.out.2.1 HQ.out.1 ⟨by omega, by rw [HN.out.1]; omega, by rw [hc.out, hLn.out]; exact Nat.lt_of_le_of_lt (cauT_le M l0 c k) hlt⟩
        replace hlit := hide' hlit
        replace hf := hide' hf
        replace hqv := hide' hqv
        replace hqM := hide' hqM
        clear HY
        have q1 := (HBX.out _ _ HQ.out.1).1
        go_upto_region 4 with fail
        refine (wpIn_wide (n := 2)).1 ?_
        gi_wp2_with (refine ⟨trivial, ?_⟩; gi_at_call 27; refine (callsIn_wide.2 GP.out).mono ?_; rintro e w9 ⟨rfl, hw9⟩; rw [hw9]; clear hw9)
        refine hRR.mono ?_
        clear hRR hy
        rintro e W5 (⟨rfl, hk5, hJ5, hK5⟩ | ⟨rfl, hX5⟩)
        · have HX := hide' (show J (cauT M l0 (c.take (k + 1))) W5 ∧ Bk D r W5 ∧ W5.heap[na]? = some (.cells #[.int .i64 l0, .int .i64 v0, .int .i64 (ρ : Int)] 46 (0, 0)) from ⟨by rw [HST.out, HSN.out, e1, if_pos rfl, hqv.out]; exact hJ5, hk5, (hK5 na _ HQ.out.2.2).trans HQ.out.2.2⟩)
          clear hk5 hJ5 hK5
          gi_wp2
          go_wp2
          go_roundw
          case rel => exact ⟨k + 1, by omega, by go_num, HX.out⟩
          case measure => simp only [intOf]; omega
        · have HX := hide' hX5
          clear hX5
          gi_wp2
          go_wp2
          first | exact ⟨⟨_, rfl⟩, Or.inr HX.out⟩ | (refine bodyPost_ret (results_none rfl _ _ _) rfl ?_; exact ⟨⟨_, rfl⟩, Or.inr HX.out⟩) | (refine bodyPost_end0 rfl rfl ?_; exact ⟨⟨_, rfl⟩, Or.inr HX.out⟩) | (go_end0; exact ⟨⟨_, rfl⟩, Or.inr HX.out⟩)
    · obtain rfl : k = L := by omega
      have i1 : ¬ (k : Int) < (k : Int) := by omega
      have HF := hide' (show J (cauL C M p) wr from by rw [HE.out]; rw [take_all c hLn.out] at hJ; exact hJ)
      have HQ := hide' (And.intro hK HF.out)
      clear hJ hK
      go_wp2
      first | exact ⟨⟨_, rfl⟩, Or.inl HQ.out⟩ | (refine bodyPost_ret (results_none rfl _ _ _) rfl ?_; exact ⟨⟨_, rfl⟩, Or.inl HQ.out⟩) | (refine bodyPost_end0 rfl rfl ?_; exact ⟨⟨_, rfl⟩, Or.inl HQ.out⟩) | (go_end0; exact ⟨⟨_, rfl⟩, Or.inl HQ.out⟩)
end Go.Proofs.Ytbcbgglhhfdbcab
