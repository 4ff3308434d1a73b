/-
  clauses: slices.Values, slices.Collect of a clause (a range over a function; the law of WJ1, without numbers).
-/
import Derived.Test.YtnjidhoceacenaaCLG
import Derived.RangeFuncNested
import Derived.RangeFuncBound
import Derived.RangeFuncCalls
import Derived.RangeFuncLeaves
import Derived.RangeFuncRecord
import Derived.RangeFuncBox
import Derived.Shelf.Abstract
import Derived.Shelf.RegionOpen
import Derived.OwnWalkIn
import Derived.TacticsInMore
import Derived.LoopNIn
import Derived.LoopIn
import Derived.Maps.AppendAt
namespace Go.Proofs.Ytnjidhoceacenaa
open Go.RowKit Go.Shelf
set_option linter.unusedVariables false
set_option linter.unusedSimpArgs false
attribute [local go_sem] Oper.semAt_some
/-- the two blocks of a range over a function: the deferred calls at D, its record behind them -/
structure Bk (D : Nat) (r : Loop) (W : World) : Prop where
  dfr : W.heap[D]? = some (.deferred (some []))
  lp : W.heap[D + 1]? = some (.loop r)
theorem Bk.lt {D : Nat} {r : Loop} {W : World} (h : Bk D r W) : D + 1 < W.heap.size := (Array.getElem?_eq_some_iff.1 h.lp).1
theorem Bk.below {D : Nat} {r : Loop} {W W' : World} (h : Bk D r W) (hb : Below W.heap.size W W') : Bk D r W' := by
  have := h.lt
  exact ⟨(hb.block D (by omega)).trans h.dfr, (hb.block (D + 1) (by omega)).trans h.lp⟩
theorem Bk.put {D : Nat} {r : Loop} {W : World} (h : Bk D r W) (r' : Loop) : Bk D r' (W.putObj (D + 1) (.loop r')) :=
  ⟨(World.putObj_heap_other (by omega)).trans h.dfr, World.putObj_heap_same h.lt⟩

/-- a round that goes on: what it leaves -/
def Goes (D : Nat) (J : World → Prop) (Kp : World → World → Prop) (V : World) : Exit → Act → World → Prop
  | .normal, _, W => (∀ r, Bk D r V → Bk D r W) ∧ Kp V W ∧ J W
  | _, _, _ => False

variable {P : Program} {n : Nat}

theorem range_all {α : Type} {g : Operand} {ps : Array Tmp} {assign body : Code} {Q : Exit → Act → World → Prop} {a : Act} {w : World} {gf : Nat} {lb : Array Value}
    (hg : a.eval g = .func (.func gf) #[] lb) (eg : ∀ args w, (callFunc gf args).run P w = .ok (.enter gf args) w)
    (encs : α → Array Value) (hps : ∀ x, (encs x).size = ps.size)
    (J : List α → World → Prop) (Px : List α → α → World → Prop) (Kp : World → World → Prop) (Ax : List α → α → Act → World → Prop)
    (hJ : ∀ s W r r', Bk w.heap.size r W → J s W → J s (W.putObj (w.heap.size + 1) (.loop r')))
    (hA : ∀ s x a' W r r', Bk w.heap.size r W → Ax s x a' W → Ax s x a' (W.putObj (w.heap.size + 1) (.loop r')))
    (hKb : ∀ W r r', Bk w.heap.size r W → Kp W (W.putObj (w.heap.size + 1) (.loop r'))) (hKt : ∀ A B C, Kp A B → Kp B C → Kp A C)
    (hassign : ∀ s x W r (K : Act → World → Prop), Bk w.heap.size r W → J s W → Px s x W → (∀ a' W', Below W.heap.size W W' → Kp W W' → Ax s x a' W' → K a' W') →
      assign.wpIn (Fence.wide.inRound (w.heap.size + 1)) (n - 1 - 1) P (Exit.then K (fun _ _ _ => False)) { tmps := (ps.zip (encs x)).foldl (fun t (p, v) => t.setIfInBounds p v) a.tmps, defers := [] } W)
    (hbody : ∀ s x a' V r, Bk w.heap.size r V → Ax s x a' V → body.wpIn (Fence.wide.inRound (w.heap.size + 1)) (n - 1 - 1) P (Goes w.heap.size (J (s ++ [x])) Kp V) a' V)
    (hiter : ∀ r W1, Bk w.heap.size r W1 → W1 = (w.alloc (.deferred (some []))).alloc (.loop r) →
      (∀ s x W, Bk w.heap.size r W → J s W → Px s x W → YieldAt Fence.wide (n - 1 - 1) P (w.heap.size + 1) (encs x) W fun e W' => e = .returned (.bool true) ∧ Bk w.heap.size r W' ∧ J (s ++ [x]) W' ∧ Kp W W') →
      CallsIn Fence.wide (n - 1) P gf (#[.func (.yield (w.heap.size + 1)) #[] #[]] ++ lb) W1 fun e W' => (∃ v, e = .returned v) ∧ Bk w.heap.size r W' ∧
        ∀ r', Q .normal { a with defers := { target := .collected w.heap.size, args := #[] } :: a.defers } (W'.putObj (w.heap.size + 1) (.loop r'))) :
    (Code.rangeFunc g ps assign body).wpIn Fence.wide n P Q a w := by
  refine wpIn_rangeFunc ?_
  intro fn hfn
  have hl1 : ((w.alloc (.deferred (some []))).alloc (.loop { state := .ready, pending := none, fn, tmps := a.tmps, params := ps, assign, body, defers := w.heap.size })).heap[w.heap.size + 1]? = some (.loop { state := .ready, pending := none, fn, tmps := a.tmps, params := ps, assign, body, defers := w.heap.size }) := by
    have := World.alloc_heap_new (w.alloc (.deferred (some []))) (.loop { state := .ready, pending := none, fn, tmps := a.tmps, params := ps, assign, body, defers := w.heap.size })
    rwa [World.size_alloc] at this
  have hd1 : ((w.alloc (.deferred (some []))).alloc (.loop { state := .ready, pending := none, fn, tmps := a.tmps, params := ps, assign, body, defers := w.heap.size })).heap[w.heap.size]? = some (.deferred (some [])) :=
    (Below.heap_alloc _ _ _ (by simp)).trans (World.alloc_heap_new w _)
  obtain ⟨W1, hW1⟩ : ∃ W1, (w.alloc (.deferred (some []))).alloc (.loop { state := .ready, pending := none, fn, tmps := a.tmps, params := ps, assign, body, defers := w.heap.size }) = W1 := ⟨_, rfl⟩
  have hen := run_enterLoop_outer (P := P) (w := w) fn a.tmps ps assign body
  rw [hW1] at hen hl1 hd1
  refine ⟨w.heap.size + 1, [{ target := .collected w.heap.size, args := #[] }], W1, { target := .fn (.func gf) lb, args := #[.func (.yield (w.heap.size + 1)) #[] #[]] }, W1, gf,
    #[.func (.yield (w.heap.size + 1)) #[] #[]] ++ lb, W1, hen, ?_, fun _ _ => trivial, ?_, fun h => (by simp [Fence.wide] at h), ?_⟩
  · simp only [resolve, hg]
    simp [go_sem]
  · simp [invoke, go_sem, eg]
  · refine (hiter _ _ ⟨hd1, hl1⟩ hW1.symm ?_).mono ?_
    · intro s x W hk hj hp
      have hy := run_yield (P := P) (args := encs x) hk.lp (hps x)
      refine ⟨fn, _, assign, body, hy, roundIn_of_wpIn trivial (hassign s x W _ _ hk hj hp ?_)⟩
      intro a' Wa hb hka hax
      have hk2 := hk.below hb
      refine ⟨_, run_beginRound hk2.lp rfl, ?_⟩
      have hk3 := hk2.put { state := .busy, pending := none, fn, tmps := a.tmps, params := ps, assign, body, defers := w.heap.size }
      refine wpIn_mono (hbody s x a' _ _ hk3 (hA s x a' _ _ _ hk2 hax)) ?_
      rintro e a3 W3 hp3
      cases e with
      | normal =>
        obtain ⟨hbk, hkp, hj3⟩ := hp3
        have hk4 := hbk _ hk3
        exact ⟨_, _, run_endRound none hk4.lp, rfl, hk4.put _, hJ _ _ _ _ hk4 hj3, hKt _ _ _ hka (hKt _ _ _ (hKb _ _ _ hk2) (hKt _ _ _ hkp (hKb _ _ _ hk4)))⟩
      | ret => exact hp3.elim
      | exit id => exact hp3.elim
      | goto t => exact hp3.elim
      | panic ch => exact hp3.elim
      | outgrown => exact hp3.elim
    · rintro e W2 ⟨⟨v, rfl⟩, hk, hq⟩
      exact ⟨none, _, run_endLoop hk.lp (by simp), hq _⟩
theorem below_putLoop {W w : World} {D B : Nat} {r : Loop} (h : Below B w W) (hk : Bk D r W) (hB : B ≤ D + 1) (r' : Obj) : Below B w (W.putObj (D + 1) r') :=
  h.trans ⟨rfl, rfl, rfl, by simp, fun k hk => World.putObj_heap_other (by omega)⟩
/-- a block of cells stays -/
theorem cells_putLoop {W : World} {D k : Nat} {r : Loop} {cur : Array Value} {t : TypeId} {fz : Nat × Nat} (h : W.heap[k]? = some (.cells cur t fz)) (hk : Bk D r W) (r' : Loop) : (W.putObj (D + 1) (.loop r')).heap[k]? = some (.cells cur t fz) := by
  have hb : k ≠ D + 1 := fun e => by rw [e, hk.lp] at h; simp at h
  rw [World.putObj_heap_other hb]
  exact h
theorem below_putDfr {W w : World} {D B : Nat} (h : Below B w W) (hB : B ≤ D) (o : Obj) : Below B w (W.putObj D o) :=
  h.trans ⟨rfl, rfl, rfl, by simp, fun k hk => World.putObj_heap_other (by omega)⟩
theorem cells_putDfr {W : World} {D k : Nat} {r : Loop} {cur : Array Value} {t : TypeId} {fz : Nat × Nat} (h : W.heap[k]? = some (.cells cur t fz)) (hk : Bk D r W) (o : Obj) : (W.putObj D o).heap[k]? = some (.cells cur t fz) := by
  have hb : k ≠ D := fun e => by rw [e, hk.dfr] at h; simp at h
  rw [World.putObj_heap_other hb]
  exact h
theorem ownsRow_keep {w w' : World} {base : Nat} {e : TypeId} {size : Nat} {v : Value} {n : Nat} {xs : List Value} (h : w.ownsRow base e size v n xs) (hb : ∀ (k : Nat) cur t fz, w.heap[k]? = some (Obj.cells cur t fz) → w'.heap[k]? = some (Obj.cells cur t fz)) : w'.ownsRow base e size v n xs := by
  refine ⟨h.1, ?_⟩
  rcases h.2 with h0 | ⟨g, cap, cur, hv, hg, hc, rest⟩
  · exact Or.inl h0
  · exact Or.inr ⟨g, cap, cur, hv, hg, hb g _ _ _ hc, rest⟩
/-- append in a round: where the row lies behind it -/
theorem wpListIn_append_liesI {F : Fence} {n' : Nat} {P : Program} (w : World) {ops : Array Oper} {rest : List Oper} {o : Oper} {a : Act} {Q : Exit → Act → World → Prop} (hgd : o.guard = none) (s x : Operand) (t : TypeId)
    (ho : o.op = .call { callee := .builtin .append, args := #[s, x], argTypes := #[t, t] })
    (base : Nat) (e : TypeId) (i : TypeInfo) (z : Value) (size bytes : Nat) (ht : P.underlying t = some (.slice e)) (hi : P.info? e = some i) (hz : i.zero = some z)
    (hsize : i.size = size) (hby : i.bytes = bytes) (hzs : z.cells.size = size) (hsz : 0 < size)
    (v : Value) (n : Nat) (xs : List Value) (hs : a.eval s = v) (hown : w.ownsRow base e size v n xs)
    (ad : Addr) (m c : Nat) (news : List Value) (hx : a.eval x = .slice (some ad) m c) (hl : news.length = m * size) (hnews : ∀ j u, news[j]? = some u → w.cell? (ad.add j) = some u) (h1 : ∀ u ∈ news, u.oneCell' = true)
    (hm : 0 < m) (h63 : n + m ≤ maxLen) (hbytes : (n + m) * bytes ≤ 140737488355328) (hbase : base ≤ w.heap.size) (H : Nat) (hH : w.heap.size = H)
    (h : ∀ g cap w', w'.ownsRow base e size (.slice (some ⟨g, 0, none⟩) (n + m) cap) (n + m) (xs ++ news) → w.grownBy w' v.ownBlock → (v.ownBlock = some g ∨ g = H) → g < w'.heap.size → wpListIn F n' P ops Q rest (a.put o.dst (.slice (some ⟨g, 0, none⟩) (n + m) cap)) w') : wpListIn F n' P ops Q (o :: rest) a w := by
  obtain ⟨g, cap, w', hr, h2, h3, h4, h5⟩ := run_append_lies (P := P) w t o.type base e i z size bytes ht hi hz hsize hby hzs hsz v n xs hown ad m c news hl hnews h1 hm h63 hbytes hbase H hH
  refine wpListIn_plain hgd fun K hK => ?_
  unfold Oper.wpIn
  refine ⟨?_, ?_⟩
  · simp [Oper.about, ho, resolve, Target.leads, Sem.run_pure]
  · rw [Oper.semAt_plain F _ _ (by rw [ho]; intro c hc'; cases hc')]
    simp [execOp, ho, resolve, invoke, builtin, hs, hx, hr, Result.andThen]
    exact hK _ _ (h g cap w' h2 h3 h4 h5)
theorem Bk.others {D : Nat} {r : Loop} {V W : World} (h : Bk D r V) (k : KeepsOthers V W) : Bk D r W := ⟨k.same _ _ h.dfr rfl, k.same _ _ h.lp rfl⟩
/-- the loop's state: the variable at w0's end holds a list of these ints -/
structure JL (w0 : World) (s : List Int) (W : World) : Prop where
  ex : ∃ v, Boxed W w0.heap.size 22 v ∧ W.ownsRow w0.heap.size 3 1 v s.length (iv s)
  bel : Below w0.heap.size w0 W
theorem JL.lt {w0 W : World} {s : List Int} (h : JL w0 s W) : w0.heap.size < W.heap.size := by
  obtain ⟨v, hv, hr⟩ := h.ex
  exact hv.lt
theorem JL.put {w0 W : World} {D : Nat} {s : List Int} {r : Loop} (h : JL w0 s W) (hk : Bk D r W) (hD : w0.heap.size ≤ D + 1) (r' : Loop) : JL w0 s (W.putObj (D + 1) (.loop r')) := by
  obtain ⟨v, hv, hr⟩ := h.ex
  exact ⟨⟨v, cells_putLoop hv hk r', ownsRow_keep hr fun k cur t fz hh => cells_putLoop hh hk r'⟩, below_putLoop h.bel hk hD _⟩
theorem JL.below {w0 W W' : World} {s : List Int} (h : JL w0 s W) (hb : Below W.heap.size W W') : JL w0 s W' := by
  obtain ⟨v, hv, hr⟩ := h.ex
  have hl := h.lt
  exact ⟨⟨v, (hb.block _ hl).trans hv, ownsRow_keep hr fun k cur t fz hh => (hb.block k (Array.getElem?_eq_some_iff.1 hh).1).trans hh⟩, h.bel.trans (hb.mono (by omega))⟩
theorem JL.appended {w0 V w1 : World} {s : List Int} {x : Int} {v : Value} {tmp : Obj} {g cap : Nat}
    (h : JL w0 s V) (hv : Boxed V w0.heap.size 22 v) (hrow : V.ownsRow w0.heap.size 3 1 v s.length (iv s))
    (hown : w1.ownsRow w0.heap.size 3 1 (.slice (some ⟨g, 0, none⟩) (s.length + 1) cap) (s.length + 1) (iv s ++ [.int .i64 x])) (hgrow : (V.alloc tmp).grownBy w1 v.ownBlock) :
    Boxed w1 w0.heap.size 22 v ∧ JL w0 (s ++ [x]) (w1.setCell ⟨w0.heap.size, 0, none⟩ (.slice (some ⟨g, 0, none⟩) (s.length + 1) cap)) ∧ KeepsOthers V (w1.setCell ⟨w0.heap.size, 0, none⟩ (.slice (some ⟨g, 0, none⟩) (s.length + 1) cap)) := by
  have hsz := hgrow.size
  simp only [World.size_alloc] at hsz
  obtain ⟨hv1, hv2, hr2, hk2, hb2⟩ := hv.appended (by decide) hrow (by have := h.lt; omega) (Nat.le_refl _) hown hgrow
  refine ⟨hv1, ⟨⟨_, hv2, ?_⟩, h.bel.trans hb2⟩, hk2⟩
  rw [iv_append, List.length_append]
  exact hr2
set_option maxRecDepth 100000 in
set_option maxHeartbeats 4000000 in
/-- slices.Values of a clause: the iterator -/
theorem valuesL_is (D : Nat) (r : Loop) (w W1 : World) (Bs : Nat) (a : Option Addr) (n c : Nat) (g : Nat → Int) (J : List Int → World → Prop)
    (hbel : ∀ s W, J s W → Below w.heap.size w W)
    (hBs : w.cell? ⟨Bs, 0, none⟩ = some (.slice a n c)) (hI : LitsAt w a n g) (hn : n ≤ 4194304)
    (hJ0 : J [] W1) (hk : Bk D r W1)
    (hY : ∀ s x W, Bk D r W → J s W → s.length < n → YieldAt Fence.wide 1 Try.prog (D + 1) #[.int .i64 x] W fun e W' => e = .returned (.bool true) ∧ Bk D r W' ∧ J (s ++ [x]) W' ∧ True) :
    CallsIn Fence.wide 2 Try.prog 36 #[.func (.yield (D + 1)) #[] #[], .pointer (some ⟨Bs, 0, none⟩)] W1 fun e W' => (∃ v, e = .returned v) ∧ Bk D r W' ∧ J (lst g n) W' := by
  have c1 := below_cell (hbel [] W1 hJ0) hBs
  refine callsIn_of_wp Try.func36 rfl trivial ?_ rfl
  simp only [Try.ntmps36, List.size_toArray, List.length_cons, List.length_nil, Nat.reduceAdd, Nat.reduceSub, Array.replicate_succ, Array.replicate_zero, List.push_toArray, List.append_toArray, List.nil_append, List.cons_append]
  have HY := hide' hY
  have HB := hide' hbel
  have HL := hide' hI
  clear hY hbel hI
  gi_wp2
  gi_loopw [7] (fun i wr => ∃ k : Nat, k ≤ n ∧ i = .int .i64 k ∧ J (lst g k) wr ∧ Bk D r wr) (fun i _ => n - (intOf i).toNat)
  case atStart => exact ⟨0, Nat.zero_le _, rfl, hJ0, hk⟩
  case round =>
    obtain ⟨k, hkl, rfl, hJs, hkr⟩ := hrel
    by_cases hlt : k < n
    · have hb := HB.out _ _ hJs
      obtain ⟨b, off, rfl, hc⟩ := HL.out.2.2 (by omega)
      have y0 := below_cell hb (hc k hlt)
      clear hc
      obtain ⟨y, hy⟩ : ∃ y, g k = y := ⟨_, rfl⟩
      rw [hy] at y0
      obtain ⟨fn, tmps, assign, body, hy2, hR⟩ := HY.out (lst g k) y _ hkr hJs (by rw [lst_length]; exact hlt)
      have HYk := hide' hy
      clear hy
      gi_wp2
      refine hR.mono ?_
      rintro e W5 ⟨rfl, hk5, hJ5, _⟩
      gi_wp2
      go_roundw
      case rel => exact ⟨k + 1, by omega, by simp, by rw [lst_succ, HYk.out]; exact hJ5, hk5⟩
      case measure => simp [intOf]; omega
    · obtain rfl : k = n := by omega
      gi_wp2
      go_end0
      exact ⟨⟨_, rfl⟩, hkr, hJs⟩
set_option maxRecDepth 100000 in
set_option maxHeartbeats 4000000 in
theorem appendSeqL_is (w : World) (Bs : Nat) (a : Option Addr) (n c : Nat) (g : Nat → Int) (hBs : w.cell? ⟨Bs, 0, none⟩ = some (.slice a n c)) (hI : LitsAt w a n g) (hn : n ≤ 4194304) :
    Calls Try.prog 45 #[.slice none 0 0, .func (.func 36) #[] #[.pointer (some ⟨Bs, 0, none⟩)]] w fun e w' => ∃ v, e = .returned v ∧ Own w w' v (lst g n) := by
  refine (callsIn_wide (n := 3)).1 ?_
  refine callsIn_of_wp_marks Try.func45 rfl trivial ?_ rfl
  simp only [Try.ntmps45, List.size_toArray, List.length_cons, List.length_nil, Nat.reduceAdd, Nat.reduceSub, Array.replicate_succ, Array.replicate_zero, List.push_toArray, List.append_toArray, List.nil_append, List.cons_append]
  obtain ⟨i0, hi, hz0, hz1, hz2⟩ := info_parts info_i
  have bO := Boxed.new w 22 (.slice none 0 0)
  have b0 := (Below.refl w.heap.size w).alloc (Nat.le_refl _) (.cells #[.slice none 0 0] 22)
  have hJ0 : JL w [] (w.alloc (.cells #[.slice none 0 0] 22)) := ⟨⟨_, bO, World.ownsRow_nil _ _ _ _⟩, b0⟩
  gi_wp2
  obtain ⟨W0, hW0⟩ : ∃ W0, w.alloc (.cells #[.slice none 0 0] 22) = W0 := ⟨_, rfl⟩
  have hsz : W0.heap.size = w.heap.size + 1 := by rw [← hW0]; simp
  rw [hW0] at bO b0 hJ0 ⊢
  refine range_all (gf := 36) (lb := #[.pointer (some ⟨Bs, 0, none⟩)]) rfl (enters_of Try.func36 (by kernel_rfl) rfl) (fun x => #[.int .i64 x]) (fun _ => rfl)
    (JL w) (fun s x W => s.length < n) (fun _ _ => True)
    (fun s x a' V => JL w s V ∧ s.length < n ∧ a' = { tmps := #[.slice none 0 0, .func (.func 36) #[] #[.pointer (some ⟨Bs, 0, none⟩)], .pointer (some ⟨w.heap.size, 0, none⟩), undef, .slice none 0 0, .int .i64 x, .func (.func 36) #[] #[.pointer (some ⟨Bs, 0, none⟩)], .int .i64 x, undef, undef, undef, undef, undef], defers := [] })
    (fun s W r r' hk h => h.put hk (by omega) r') ?hA (fun W r r' hk => trivial) (fun A B C h k => trivial) ?assign ?body ?iter
  case hA =>
    rintro s x a' W r r' hk ⟨hj, hl, rfl⟩
    exact ⟨hj.put hk (by omega) r', hl, rfl⟩
  case assign =>
    rintro s x W r K hk hj hl hK
    have hK' := hK _ _ (Below.refl W.heap.size W) trivial ⟨hj, hl, rfl⟩
    clear hK
    gi_wp2
    exact hK'
  case body =>
    rintro s x a' V r hk ⟨hj, hl, rfl⟩
    obtain ⟨v, hv, hrow⟩ := hj.ex
    have hcv := hv.cell
    have hlt := hj.lt
    gi_wp2_with (gi_at_builtin; refine wpListIn_append_liesI _ rfl _ _ 22 rfl w.heap.size 3 i0 _ 1 8 Try.underlying22 hi hz0 hz1 hz2 rfl (by decide) _ _ _ rfl (ownsRow_keep hrow fun k cur t fz hh => (Below.heap_alloc _ _ _ (Array.getElem?_eq_some_iff.1 hh).1).trans hh) ⟨V.heap.size, 0, none⟩ 1 1 [.int .i64 x] rfl rfl (World.news_of_block (World.alloc_heap_new V _)) (by simp [Value.oneCell']) (by decide) (by simp [maxLen]; omega) (by omega) (by simp; omega) (V.heap.size + 1) (by simp) ?_; intro g cap w1 hown' hgrow hg hglt; obtain ⟨hv1, hJ9, hO9⟩ := hj.appended hv hrow hown' hgrow; have hc1 := hv1.cell; have hf1 := hv1.frozen)
    exact ⟨fun r h => h.others hO9, trivial, hJ9⟩
  case iter =>
    intro r W1 hk hW1 hY
    have b1 : Below W0.heap.size W0 W1 := by
      rw [hW1]
      exact ((Below.refl W0.heap.size W0).alloc (Nat.le_refl _) _).alloc (by simp) _
    refine (valuesL_is W0.heap.size r w W1 Bs a n c g (JL w) (fun s W h => h.bel) hBs hI hn (hJ0.below b1) hk hY).mono ?_
    rintro e W2 ⟨he, hk2, hj⟩
    refine ⟨he, hk2, fun r' => ?_⟩
    have hj2 := hj.put hk2 (by omega) r'
    have hk3 := hk2.put r'
    generalize W2.putObj (W0.heap.size + 1) (.loop r') = W3 at hj2 hk3
    obtain ⟨v, hv, hrow⟩ := hj2.ex
    have hcv := hv.cell
    gi_wp2
    refine ⟨by simp, .inl ⟨_, _, rfl, run_takeDeferred hk3.dfr, ?_⟩⟩
    exact ⟨_, results_tmp rfl _ _ _, v, rfl, ownsRow_keep hrow fun k cur t fz hh => cells_putDfr hh hk3 _, below_putDfr hj2.bel (by omega) _⟩
end Go.Proofs.Ytnjidhoceacenaa
