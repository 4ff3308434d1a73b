import Derived.Test.YtejlnodillnoaaaGreatDoorWJ1
import Derived.Deep.RegionHeld
import Derived.Test.YtejlnodillnoaaaGreatDoorWSB
import Derived.Test.YtejlnodillnoaaaGreatDoorNumX
set_option linter.unusedSimpArgs false
namespace Go.Proofs.YtejlnodillnoaaaGreatDoor
open Go.RowKit Go.Shelf
set_option linter.unusedVariables false
def stpL (r : Loop) : Loop := { r with state := .done, pending := some .ret }
def GoesR (D : Nat) (J R : World → Prop) (Kp : World → World → Prop) (V : World) : Exit → Act → World → Prop
  | .normal, _, W => (∀ r, Bk D r V → Bk D r W) ∧ Kp V W ∧ J W
  | .ret, _, W => (∀ r, Bk D r V → Bk D r W) ∧ R W
  | _, _, _ => False
variable {P : Program} {n : Nat}
theorem range_ret {α : Type} {g : Operand} {ps : Array Tmp} {assign body : Code} {Q : Exit → Act → World → Prop} {a : Act} {w : World} {gf : Nat} {lb : Array Value}
    (hg : a.eval g = .func (.func gf) #[] lb) (eg : ∀ args w, (callFunc gf args).run P w = .ok (.enter gf args) w)
    (encs : α → Array Value) (hps : ∀ x, (encs x).size = ps.size)
    (J : List α → World → Prop) (R : World → Prop) (Px : List α → α → World → Prop) (Kp : World → World → Prop) (Ax : List α → α → Act → World → Prop)
    (hJ : ∀ s W r r', Bk w.heap.size r W → J s W → J s (W.putObj (w.heap.size + 1) (.loop r')))
    (hR : ∀ W r r', Bk w.heap.size r W → R W → R (W.putObj (w.heap.size + 1) (.loop r')))
    (hA : ∀ s x a' W r r', Bk w.heap.size r W → Ax s x a' W → Ax s x a' (W.putObj (w.heap.size + 1) (.loop r')))
    (hKb : ∀ W r r', Bk w.heap.size r W → Kp W (W.putObj (w.heap.size + 1) (.loop r'))) (hKt : ∀ A B C, Kp A B → Kp B C → Kp A C)
    (hassign : ∀ s x W r (K : Act → World → Prop), Bk w.heap.size r W → J s W → Px s x W → (∀ a' W', Below W.heap.size W W' → Kp W W' → Ax s x a' W' → K a' W') →
      assign.wpIn (Fence.wide.inRound (w.heap.size + 1)) (n - 1 - 1) P (Exit.then K (fun _ _ _ => False)) { tmps := (ps.zip (encs x)).foldl (fun t (p, v) => t.setIfInBounds p v) a.tmps, defers := [] } W)
    (hbody : ∀ s x a' V r, Bk w.heap.size r V → Ax s x a' V → body.wpIn (Fence.wide.inRound (w.heap.size + 1)) (n - 1 - 1) P (GoesR w.heap.size (J (s ++ [x])) R Kp V) a' V)
    (hiter : ∀ r W1, Bk w.heap.size r W1 → W1 = (w.alloc (.deferred (some []))).alloc (.loop r) →
      (∀ s x W, Bk w.heap.size r W → J s W → Px s x W → YieldAt Fence.wide (n - 1 - 1) P (w.heap.size + 1) (encs x) W fun e W' => (e = .returned (.bool true) ∧ Bk w.heap.size r W' ∧ J (s ++ [x]) W' ∧ Kp W W') ∨ (e = .returned (.bool false) ∧ Bk w.heap.size (stpL r) W' ∧ R W')) →
      CallsIn Fence.wide (n - 1) P gf (#[.func (.yield (w.heap.size + 1)) #[] #[]] ++ lb) W1 fun e W' => (∃ v, e = .returned v) ∧
        ((Bk w.heap.size r W' ∧ ∀ r', Q .normal { a with defers := { target := .collected w.heap.size, args := #[] } :: a.defers } (W'.putObj (w.heap.size + 1) (.loop r'))) ∨
         (Bk w.heap.size (stpL r) W' ∧ ∀ r', Code.ret.wpIn Fence.wide n P Q { a with defers := { target := .collected w.heap.size, args := #[] } :: a.defers } (W'.putObj (w.heap.size + 1) (.loop r'))))) :
    (Code.rangeFunc g ps assign body).wpIn Fence.wide n P Q a w := by
  refine wpIn_rangeFunc ?_
  intro fn hfn
  have hl1 : ((w.alloc (.deferred (some []))).alloc (.loop { state := .ready, pending := none, fn, tmps := a.tmps, params := ps, assign, body, defers := w.heap.size })).heap[w.heap.size + 1]? = some (.loop { state := .ready, pending := none, fn, tmps := a.tmps, params := ps, assign, body, defers := w.heap.size }) := by
    have := World.alloc_heap_new (w.alloc (.deferred (some []))) (.loop { state := .ready, pending := none, fn, tmps := a.tmps, params := ps, assign, body, defers := w.heap.size })
    rwa [World.size_alloc] at this
  have hd1 : ((w.alloc (.deferred (some []))).alloc (.loop { state := .ready, pending := none, fn, tmps := a.tmps, params := ps, assign, body, defers := w.heap.size })).heap[w.heap.size]? = some (.deferred (some [])) :=
    (Below.heap_alloc _ _ _ (by simp)).trans (World.alloc_heap_new w _)
  obtain ⟨W1, hW1⟩ : ∃ W1, (w.alloc (.deferred (some []))).alloc (.loop { state := .ready, pending := none, fn, tmps := a.tmps, params := ps, assign, body, defers := w.heap.size }) = W1 := ⟨_, rfl⟩
  have hen := run_enterLoop_outer (P := P) (w := w) fn a.tmps ps assign body
  rw [hW1] at hen hl1 hd1
  refine ⟨w.heap.size + 1, [{ target := .collected w.heap.size, args := #[] }], W1, { target := .fn (.func gf) lb, args := #[.func (.yield (w.heap.size + 1)) #[] #[]] }, W1, gf,
    #[.func (.yield (w.heap.size + 1)) #[] #[]] ++ lb, W1, hen, ?_, fun _ _ => trivial, ?_, fun h => (by simp [Fence.wide] at h), ?_⟩
  · simp only [resolve, hg]
    simp [go_sem]
  · simp [invoke, go_sem, eg]
  · refine (hiter _ _ ⟨hd1, hl1⟩ hW1.symm ?_).mono ?_
    · intro s x W hk hj hp
      have hy := run_yield (P := P) (args := encs x) hk.lp (hps x)
      refine ⟨fn, _, assign, body, hy, roundIn_of_wpIn trivial (hassign s x W _ _ hk hj hp ?_)⟩
      intro a' Wa hb hka hax
      have hk2 := hk.below hb
      refine ⟨_, run_beginRound hk2.lp rfl, ?_⟩
      have hk3 := hk2.put { state := .busy, pending := none, fn, tmps := a.tmps, params := ps, assign, body, defers := w.heap.size }
      refine wpIn_mono (hbody s x a' _ _ hk3 (hA s x a' _ _ _ hk2 hax)) ?_
      rintro e a3 W3 hp3
      cases e with
      | normal =>
        obtain ⟨hbk, hkp, hj3⟩ := hp3
        have hk4 := hbk _ hk3
        exact ⟨_, _, run_endRound none hk4.lp, Or.inl ⟨rfl, hk4.put _, hJ _ _ _ _ hk4 hj3, hKt _ _ _ hka (hKt _ _ _ (hKb _ _ _ hk2) (hKt _ _ _ hkp (hKb _ _ _ hk4)))⟩⟩
      | ret =>
        obtain ⟨hbk, hr3⟩ := hp3
        have hk4 := hbk _ hk3
        exact ⟨_, _, run_endRound (some .ret) hk4.lp, Or.inr ⟨rfl, hk4.put _, hR _ _ _ hk4 hr3⟩⟩
      | exit id => exact hp3.elim
      | goto t => exact hp3.elim
      | panic ch => exact hp3.elim
      | outgrown => exact hp3.elim
    · rintro e W2 ⟨⟨v, rfl⟩, ⟨hk, hq⟩ | ⟨hk, hq⟩⟩
      · exact ⟨none, _, run_endLoop hk.lp (by simp), hq _⟩
      · exact ⟨some .ret, _, run_endLoop hk.lp (by simp [stpL]), hq _⟩
def noDef (ops : Array Oper) : Bool := ops.all fun o => match o.op with | .defer _ => false | _ => true
theorem noDef_at {ops : Array Oper} (h : noDef ops = true) {i : Nat} {o : Oper} (ho : ops[i]? = some o) : ∀ c, o.op ≠ .defer c := fun c e => by
  obtain ⟨hi, hh⟩ := Array.getElem?_eq_some_iff.1 ho
  have h1 := Array.all_eq_true.1 h i hi
  rw [hh, e] at h1
  cases h1
theorem rowsIn_round {l n : Nat} {row : String} {args : Array Value} {w : World} {R : Value → World → Prop} (h : Rows P row args w R) : RowsIn (Fence.wide.inRound l) n P row args w R :=
  fun c cs _ => by
    obtain ⟨v, w', r, s⟩ := h c cs
    exact ⟨v, w', r, stepsIn_wide.2 s⟩
theorem operIn_round {l n : Nat} {o : Oper} {a : Act} {w : World} {K : Act → World → Prop} {Q : Exit → Act → World → Prop} (hd : ∀ c, o.op ≠ .defer c) (h : o.wp P a w K Q) : o.wpIn (Fence.wide.inRound l) n P a w K Q := by
  refine ⟨fun _ _ => trivial, ?_⟩
  show o.uponIn _ n P a K Q ((o.semAt (some l) a.eval).run P w)
  rw [Oper.semAt_some l _ _ hd]
  unfold Oper.wp at h
  generalize (execOp a.eval o).run P w = r at h ⊢
  cases r with
  | ok x w' =>
    cases x with
    | value v => exact h
    | skip => exact h
    | «defer» d => exact h
    | enter f args => exact ⟨fun h9 => by simp [Fence.wide] at h9, CallsIn.inRound l (callsIn_wide.2 h)⟩
    | row row args => exact ⟨fun h9 => by simp [Fence.wide] at h9, rowsIn_round h⟩
    | round l' f tmps assign body => exact h.elim
    | _ => exact h.elim
  | halt x w' => cases x <;> simp only [Oper.upon, Oper.uponIn] at h ⊢ <;> exact h
theorem opIn_round {l n i : Nat} {ops : Array Oper} {a : Act} {w : World} {K : Act → World → Prop} {Q : Exit → Act → World → Prop} (hn : noDef ops = true) (hq : ¬ LetsOut Q) (h : wpOp P ops Q i K a w) : wpOpIn (Fence.wide.inRound l) n P ops Q i K a w := by
  unfold wpOp at h
  unfold wpOpIn
  cases ho : ops[i]? with
  | none =>
    rw [ho] at h
    exact h
  | some o =>
    rw [ho] at h
    simp only at h ⊢
    split at h
    · rename_i hw
      rw [if_pos hw]
      rcases h with h | ⟨_, h⟩
      · exact operIn_round (noDef_at hn ho) h
      · exact absurd h hq
    · rename_i hw
      rw [if_neg hw]
      exact ⟨fun _ _ => trivial, h⟩
theorem anyIn_round {l n : Nat} {ops : Array Oper} {md : Region.Mode} {Q : Exit → Act → World → Prop} (hn : noDef ops = true) (hq : ¬ LetsOut Q) : ∀ (fuel : Nat) (L : Array Bool) (a : Act) (w : World), wpAny P md ops Q fuel L a w → wpAnyIn (Fence.wide.inRound l) n P md ops Q fuel L a w
  | 0, _, _, _, h => h
  | fuel + 1, _, _, _, h => ⟨h.1, fun i hi => opIn_round hn hq (wpOp_mono (fun a w h' => anyIn_round hn hq fuel _ a w h') (h.2 i hi))⟩
theorem region_round {l n id : Nat} {ops : Array Oper} {a : Act} {w : World} {Q : Exit → Act → World → Prop} {S : World → Prop} (hm : P.follows .mixedOrders = true) (hn : noDef ops = true) (hq : ¬ LetsOut Q) (hS : S w.drew)
    (h : S w.drew → wpAnyH P .any ops Q S ops.size (Array.replicate ops.size false) a w.drew) : (Code.region id ops true).wpIn (Fence.wide.inRound l) n P Q a w :=
  wpIn_region_any hm (anyIn_round hn hq _ _ _ _ (wpAny_of_held _ _ _ _ (h hS)))
theorem blk_putLoop {W : World} {D c : Nat} {r : Loop} {cur : Array Value} {t : TypeId} (h : Blk W c cur t) (hk : Bk D r W) (r' : Loop) : Blk (W.putObj (D + 1) (.loop r')) c cur t := cells_putLoop h hk r'
theorem blk_putDfr {W : World} {D c : Nat} {r : Loop} {cur : Array Value} {t : TypeId} (h : Blk W c cur t) (hk : Bk D r W) (o : Obj) : Blk (W.putObj D o) c cur t := cells_putDfr h hk o
theorem KpB.put {base D : Nat} {W : World} {r : Loop} (hk : Bk D r W) (r' : Loop) : KpB base W (W.putObj (D + 1) (.loop r')) := ⟨fun c cur t _ h => blk_putLoop h hk r', fun a X n h => h.putLoop hk r', by simp⟩
theorem KpB.below {base : Nat} {W W' : World} (h : Below W.heap.size W W') : KpB base W W' := ⟨fun c cur t _ k => k.later h, fun a X n k => k.later h, h.size⟩
theorem KpB.ch {base c : Nat} {W W' : World} (k : Ch c W W') (hc : c < base) (hno : ∀ o i, W.cell? ⟨c, o, none⟩ ≠ some (.int .u32 i)) : KpB base W W' := ⟨fun e cur t he h => h.ch k (by omega), fun a X n h => h.ch k hno, Nat.le_of_eq k.size.symm⟩
attribute [local go_sem] Oper.semAt_some
open Classical in
noncomputable def numC (c o : Nat) (W : World) : Nat := if h : ∃ r a n cap, W.cell? ⟨c, o, none⟩ = some (.slice a n cap) ∧ Seg W a r n then h.choose else 0
theorem seg_uniqC {w : World} {a : Option Addr} {X Y n : Nat} (h : Seg w a X n) (k : Seg w a Y n) : X = Y := by
  rcases Nat.eq_zero_or_pos n with h0 | h0
  · subst h0
    rw [h.zero, k.zero]
  · obtain ⟨b, off, rfl, hl, hc⟩ := h.2 h0
    have hk := k.cells
    refine dg_ext h.1 k.1 fun i hi => ?_
    have h1 := hc i hi
    rw [hk i hi] at h1
    simp only [Option.some.injEq, Value.int.injEq, true_and] at h1
    omega
theorem numC_eq {c o : Nat} {W : World} {a : Option Addr} {r n cap : Nat} (hc : W.cell? ⟨c, o, none⟩ = some (.slice a n cap)) (h : Seg W a r n) : numC c o W = r := by
  have hx : ∃ r a n cap, W.cell? ⟨c, o, none⟩ = some (.slice a n cap) ∧ Seg W a r n := ⟨r, a, n, cap, hc, h⟩
  unfold numC
  rw [dif_pos hx]
  have sp := hx.choose_spec
  generalize hx.choose = q at sp ⊢
  obtain ⟨a', n', cap', hc', hs'⟩ := sp
  rw [hc] at hc'
  simp only [Option.some.injEq, Value.slice.injEq] at hc'
  obtain ⟨rfl, rfl, rfl⟩ := hc'
  exact seg_uniqC hs' h
set_option maxRecDepth 100000 in
set_option maxHeartbeats 4000000 in
theorem numbersR_is (D : Nat) (r rS : Loop) (w : World) (cF : Nat) (a b : NV) (J : List NV → World → Prop) (R : World → Prop) (L : List Int)
    (hJb : ∀ s W W', J s W → Below W.heap.size W W' → J s W') (hJc : ∀ s (W W' : World) e, J s W → w.heap.size ≤ e → Ch e W W' → (∀ o i, W.cell? ⟨e, o, none⟩ ≠ some (.int .u32 i)) → J s W')
    (hqF : Blk w cF #[.bool a.s, .slice a.a a.n a.c, .bool false, .slice b.a b.n b.c] 43) (ha : a.ok w) (hb : b.ok w) (hb0 : b.X ≠ 0) (hL : cf a.val b.X = L) (hsz : a.n ≤ 35184372087808 ∧ b.n ≤ 35184372087808) (hJ0 : J [] w) (hk : Bk D r w)
    (hY : ∀ s x W, Bk D r W → J s W → x.ok W → (∃ rest, s.map NV.val ++ x.val :: rest = L) → YieldAt Fence.wide 1 Tryz.prog (D + 1) #[.agg #[.bool x.s, .slice x.a x.n x.c]] W fun e W' => (e = .returned (.bool true) ∧ Bk D r W' ∧ J (s ++ [x]) W' ∧ KpB w.heap.size W W') ∨ (e = .returned (.bool false) ∧ Bk D rS W' ∧ R W')) :
    CallsIn Fence.wide 2 Tryz.prog 84 #[.func (.yield (D + 1)) #[] #[], .pointer (some ⟨cF, 0, none⟩)] w fun e W' => (∃ v, e = .returned v) ∧ ((Bk D r W' ∧ ∃ s, s.map NV.val = L ∧ J s W') ∨ (Bk D rS W' ∧ R W')) := by
  refine callsIn_of_wp Tryz.func84 rfl trivial ?_ rfl
  simp only [Tryz.ntmps84, List.size_toArray, List.length_cons, List.length_nil, Nat.reduceAdd, Nat.reduceSub, Array.replicate_succ, Array.replicate_zero, List.push_toArray, List.append_toArray, List.nil_append, List.cons_append]
  have f0 := hqF.cell 0
  have f1 := hqF.cell 1
  have f2 := hqF.cell 2
  have f3 := hqF.cell 3
  simp only [List.getElem?_toArray, List.getElem?_cons_zero, List.getElem?_cons_succ] at f0 f1 f2 f3
  have HY := hide' hY
  have HJB := hide' hJb
  have HJC := hide' hJc
  clear hY hJb hJc
  gi_wp2
  gi_loopw [] (fun wr => ∃ (s : List NV) (a b : NV), Blk wr w.heap.size #[.bool a.s, .slice a.a a.n a.c, .bool false, .slice b.a b.n b.c] 43 ∧ b.X ≠ 0 ∧ a.ok wr ∧ b.ok wr ∧ (a.n ≤ 35184372087808 ∧ b.n ≤ 35184372087808) ∧ s.map NV.val ++ cf a.val b.X = L ∧ J s wr ∧ Bk D r wr)
    (fun wr => numC w.heap.size 3 wr)
  case atStart =>
    have b0 := (Below.refl w.heap.size w).alloc (Nat.le_refl _) (.cells #[.bool a.s, .slice a.a a.n a.c, .bool false, .slice b.a b.n b.c] 43)
    exact ⟨[], a, b, Blk.new w _ _, hb0, ha.later b0, hb.later b0, hsz, by rw [hL]; rfl, HJB.out _ _ _ hJ0 b0, hk.below b0⟩
  case round =>
    clear f0 f1 f2 f3 hqF ha hb hb0 hL hsz hJ0 hk
    obtain ⟨s, a, b, hX, hV0, ha, hb, hsz, hcf, hJs, hkr⟩ := hrel
    obtain ⟨Zf, Zg, he, hsg, hlt, hle, hcall⟩ := floor_of a.s a.a a.n a.c a.X false b.a b.n b.c b.X ha.2.1 (by omega) hb.2.1 (by omega) hV0
    have hZg := fr_rest hV0 hsg hlt
    obtain ⟨hcd, hcm⟩ := fr_step (A := a.val) (Zf := Zf) (Zg := Zg) hV0 (by simpa [sg, NV.val] using he) hZg.1 hZg.2
    have lF : ln (am Zf) ≤ a.n + 1 := lnp hle ha.1.1
    have lG : ln (am Zg) ≤ b.n := ln_le_of_lt (Nat.lt_trans hlt hb.1.1)
    have hrest : ∃ rest, s.map NV.val ++ Zf :: rest = L := by
      rw [← hcf]
      by_cases h0 : Zg = 0
      · exact ⟨[], by rw [cf_end hV0 (hcm.trans h0), hcd]⟩
      · exact ⟨_, by rw [cf_on hV0 (by rw [hcm]; exact h0), hcd]⟩
    have x0 := hX.cell 0
    have x1 := hX.cell 1
    have x2 := hX.cell 2
    have x3 := hX.cell 3
    simp only [List.getElem?_toArray, List.getElem?_cons_zero, List.getElem?_cons_succ] at x0 x1 x2 x3
    have hme := hide' (numC_eq x3 hb.1)
    have hC := hide' (hcall wr ha.1 hb.1)
    have HF := hide' (And.intro hcf (And.intro hcd hcm))
    have HR := hide' hrest
    have hwl := hX.lt
    clear hcall hcf he hsg hcd hcm hrest
    gi_wp2_with (refine ⟨trivial, ?_⟩; gi_at_call 66; refine (callsIn_wide.2 hC.out).mono ?_; rintro e w2 ⟨aq, ar, rfl, nq, nr⟩)
    clear hC x0 x1 x2 x3
    have b2 := nq.below
    have sz2 := b2.size
    have b4 : Below w2.heap.size w2 ((w2.alloc (.cells #[.bool (ng Zf), .slice aq (ln (am Zf)) (ln (am Zf))] 25)).alloc (.cells #[.bool (ng Zg), .slice ar (ln (am Zg)) (ln (am Zg))] 25)) :=
      ((Below.refl w2.heap.size w2).alloc (Nat.le_refl _) _).alloc (by simp) _
    have bx5 := Blk.new (w2.alloc (.cells #[.bool (ng Zf), .slice aq (ln (am Zf)) (ln (am Zf))] 25)) #[.bool (ng Zg), .slice ar (ln (am Zg)) (ln (am Zg))] 25
    rw [World.size_alloc] at bx5
    have hJ4 := HJB.out _ _ _ (HJB.out _ _ _ hJs b2) b4
    have hk4 := (hkr.below b2).below b4
    have s4q := nq.seg.later b4
    have s4r := nr.seg.later b4
    have sq4 := (hb.later b2).later b4
    have hX4 := (hX.later b2).later b4
    obtain ⟨rest, hrest⟩ := HR.out
    obtain ⟨fn, tmps, assign, body, hy, hR⟩ := HY.out s (⟨ng Zf, aq, ln (am Zf), ln (am Zf), am Zf⟩ : NV) _ hk4 hJ4 ⟨s4q, Nat.le_refl _, by show ln (am Zf) ≤ _; omega⟩ ⟨rest, by show _ ++ sg (ng Zf) (am Zf) :: _ = _; rw [sg_na]; exact hrest⟩
    rw [hy]
    gi_wp2
    refine hR.mono ?_
    clear hR hy hrest rest HR
    rintro e W5 (⟨rfl, hk5, hJ5, hK5⟩ | ⟨rfl, hk5, hR5⟩)
    · have y5 := hK5.blk _ _ _ (by omega) bx5
      have sr5 := hK5.seg _ _ _ s4r
      have sq5 := hK5.ok sq4
      have hX5 := hK5.blk _ _ _ (Nat.le_refl _) hX4
      clear b2 b4 bx5 hJ4 hk4 s4q s4r sq4 hX4 hK5 nq nr hX ha hb hkr hJs
      have y0 := y5.cell 0
      have y1 := y5.cell 1
      simp only [List.getElem?_toArray, List.getElem?_cons_zero, List.getElem?_cons_succ] at y0 y1
      have hC := hide' (wSign_is (ng Zg) ar (ln (am Zg)) (ln (am Zg)) (am Zg) Zg W5 (Nat.le_refl _) (by omega) sr5 (sg_na Zg))
      by_cases h0 : Zg = 0
      · have hs0 := hide' (show sgn Zg = 0 by rw [h0]; rfl)
        have H0 := hide' h0
        clear h0
        gi_wp2_with (refine ⟨trivial, ?_⟩; gi_at_call 24; refine (callsIn_wide.2 hC.out).mono ?_; rintro e w6 ⟨rfl, b6⟩; rw [hs0.out])
        refine bodyPost_ret (results_none rfl _ _ _) rfl ?_
        obtain ⟨hcf, hcd, hcm⟩ := HF.out
        refine ⟨⟨_, rfl⟩, Or.inl ⟨hk5.below b6, _, ?_, HJB.out _ _ _ hJ5 b6⟩⟩
        rw [← hcf, cf_end hV0 (hcm.trans H0.out), hcd, List.map_append]
        show _ ++ [sg (ng Zf) (am Zf)] = _
        rw [sg_na]
      · have hs1 := hide' (show sgn Zg = 1 by simp [sgn, h0]; omega)
        have H0 := hide' h0
        clear h0
        gi_wp2_with (refine ⟨trivial, ?_⟩; gi_at_call 24; refine (callsIn_wide.2 hC.out).mono ?_; rintro e w6 ⟨rfl, b6⟩; rw [hs1.out]; have y6 := y5.later b6; have hX6 := hX5.later b6; have yy0 := y6.cell 0; have yy1 := y6.cell 1; have xx0 := hX6.cell 0; have xx1 := hX6.cell 1; have xx2 := hX6.cell 2; have xx3 := hX6.cell 3; have zz := fun o => hX6.frozen o; simp only [List.getElem?_toArray, List.getElem?_cons_zero, List.getElem?_cons_succ] at yy0 yy1 xx0 xx1 xx2 xx3)
        have hng : ng Zg = false := by simp [ng]; omega
        rw [hng]
        obtain ⟨c7, h7⟩ := hX6.set4 (.bool false) (.slice b.a b.n b.c) (.bool false) (.slice ar (ln (am Zg)) (ln (am Zg)))
        have hno := hX6.no (by simp)
        have hZp : am Zg ≠ 0 := by have := H0.out; unfold am; omega
        have hJ7 := HJC.out _ _ _ _ (HJB.out _ _ _ hJ5 b6) (Nat.le_refl _) c7 hno
        have hk7 := (hk5.below b6).ch c7 hX6
        have sq7 := (sq5.later b6).ch c7 hno
        have sr7 := (sr5.later b6).ch c7 hno
        obtain ⟨hcf, hcd, hcm⟩ := HF.out
        go_roundw
        case rel =>
          refine ⟨s ++ [(⟨ng Zf, aq, ln (am Zf), ln (am Zf), am Zf⟩ : NV)], ⟨false, b.a, b.n, b.c, b.X⟩, ⟨false, ar, ln (am Zg), ln (am Zg), am Zg⟩, h7, hZp, sq7, ⟨sr7, Nat.le_refl _, by show ln (am Zg) ≤ _; omega⟩, ⟨hsz.2, by show ln (am Zg) ≤ _; omega⟩, ?_, hJ7, hk7⟩
          rw [← hcf, cf_on hV0 (by rw [hcm]; exact H0.out), hcd, hcm, List.map_append]
          have e1 : sg false b.X = (b.X : Int) := by simp [sg]
          have e2 : Zg.toNat = am Zg := by unfold am; omega
          show (_ ++ [sg (ng Zf) (am Zf)]) ++ cf (sg false b.X) (am Zg) = _
          rw [e1, e2, sg_na]
          simp
        case measure =>
          have h9 := h7.cell 3
          simp only [List.getElem?_toArray, List.getElem?_cons_zero, List.getElem?_cons_succ] at h9
          rw [hme.out, numC_eq h9 sr7]
          exact hlt
    · gi_wp2
      refine ⟨trivial, ?_⟩
      gi_wp2
      refine bodyPost_ret (results_none rfl _ _ _) rfl ?_
      exact ⟨⟨_, rfl⟩, Or.inr ⟨hk5, hR5⟩⟩
end Go.Proofs.YtejlnodillnoaaaGreatDoor
