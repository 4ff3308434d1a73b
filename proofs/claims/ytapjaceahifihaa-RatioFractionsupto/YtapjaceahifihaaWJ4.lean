/-
  Expand: the numbers of a continued fraction as a list (slices.Collect, slices.AppendSeq).
-/
import Derived.Test.YtapjaceahifihaaWJ3
import Derived.Test.YtapjaceahifihaaWQ1
namespace Go.Proofs.Ytapjaceahifihaa
open Go.RowKit Go.Shelf
set_option linter.unusedVariables false
set_option linter.unusedSimpArgs false
attribute [local go_sem] Oper.semAt_some

theorem info_IntJ : (Try.prog.info? 25).map (fun i => (i.zero, i.size, i.bytes)) = some (some (.agg #[.bool false, .slice none 0 0]), 2, 32) := by kernel_rfl

set_option maxRecDepth 100000 in
set_option maxHeartbeats 4000000 in
theorem appendSeq_is (N : Nat) (w : World) (cF : Nat) (sn : Bool) (a : Option Addr) (n cp X : Nat) (b : Option Addr) (m cp2 Y : Nat)
    (hY0 : Y ≠ 0) (hc : n ≤ cp) (hm : n ≤ 1099511627776) (hc2 : m ≤ cp2) (hm2 : m ≤ 1099511627776) (hF : w.heap[cF]? = some (.cells #[.bool sn, .slice a n cp, .bool false, .slice b m cp2] 45 (0, 0)))
    (hSa : Seg w a X n) (hSb : Seg w b Y m) (hN : (cf (sg sn X) Y).length ≤ N) (hN2 : N ≤ 4294967296) :
    Calls Try.prog 35 #[.slice none 0 0, .func (.func 36) #[] #[.pointer (some ⟨cF, 0, none⟩)]] w fun e w' => ∃ v s, e = .returned v ∧ s.map Prod.fst = cf (sg sn X) Y ∧ w'.ownsRow w.heap.size 25 2 v s.length (cellsI s) ∧ (∀ x ∈ s, Seg w' x.2 (am x.1) (ln (am x.1))) ∧ Below w.heap.size w w' := by
  refine (callsIn_wide (n := 3)).1 ?_
  refine callsIn_of_wp_marks Try.func35 rfl trivial ?_ rfl
  simp only [Try.ntmps35, List.size_toArray, List.length_cons, List.length_nil, Nat.reduceAdd, Nat.reduceSub, Array.replicate_succ, Array.replicate_zero, List.push_toArray, List.append_toArray, List.nil_append, List.cons_append]
  obtain ⟨i0, hi, hz0, hz1, hz2⟩ := info_parts info_IntJ
  have bO := Boxed.new w 28 (.slice none 0 0)
  have b0 := (Below.refl w.heap.size w).alloc (Nat.le_refl _) (.cells #[.slice none 0 0] 28)
  have hJ0 : JI w.heap.size w.heap.size w [] (w.alloc (.cells #[.slice none 0 0] 28)) := ⟨⟨_, bO, World.ownsRow_nil _ _ _ _⟩, by simp, b0, Nat.le_refl _⟩
  have hno : ∀ k, ¬ Out w.heap.size (w.alloc (.cells #[.slice none 0 0] 28)) k := by
    rintro k ⟨v, hv, hk⟩
    rw [bO.cell] at hv
    obtain rfl := Option.some.inj hv
    simp [Value.ownBlock] at hk
  have toC : ∀ {ao : Option Addr} {Z l : Nat}, Seg w ao Z l → SegC w.heap.size (w.alloc (.cells #[.slice none 0 0] 28)) ao Z l := fun h =>
    ⟨h.below b0 (Nat.le_refl _), fun hn b off e => ⟨fun eb => by obtain ⟨b', off', e', hl, _⟩ := h.2 hn; rw [e] at e'; simp only [Option.some.injEq, Addr.mk.injEq, and_true] at e'; omega, hno b⟩⟩
  have cA := toC hSa
  have cB := toC hSb
  have hF1 := (b0.block cF (Array.getElem?_eq_some_iff.1 hF).1).trans hF
  clear toC
  gi_wp2
  obtain ⟨W0, hW0⟩ : ∃ W0, w.alloc (.cells #[.slice none 0 0] 28) = W0 := ⟨_, rfl⟩
  have hsz : W0.heap.size = w.heap.size + 1 := by rw [← hW0]; simp
  rw [hW0] at bO b0 hJ0 hno cA cB hF1 ⊢
  refine range_all (gf := 36) (lb := #[.pointer (some ⟨cF, 0, none⟩)]) rfl (enters_of Try.func36 (by kernel_rfl) rfl) (fun x => #[vI x]) (fun _ => rfl)
    (JI w.heap.size w.heap.size w) (fun s x W => SegC w.heap.size W x.2 (am x.1) (ln (am x.1)) ∧ s.length < N) (Kpo w.heap.size)
    (fun s x a' V => JI w.heap.size w.heap.size w s V ∧ SegC w.heap.size V x.2 (am x.1) (ln (am x.1)) ∧ s.length < N ∧ ∃ Bx, V.heap[Bx]? = some (.cells #[.bool (ng x.1), .slice x.2 (ln (am x.1)) (ln (am x.1))] 25 (0, 0)) ∧ a' = { tmps := #[.slice none 0 0, .func (.func 36) #[] #[.pointer (some ⟨cF, 0, none⟩)], .pointer (some ⟨w.heap.size, 0, none⟩), undef, .slice none 0 0, .pointer (some ⟨Bx, 0, none⟩), .func (.func 36) #[] #[.pointer (some ⟨cF, 0, none⟩)], vI x, undef, undef, undef, undef, undef], defers := [] })
    (fun s W r r' hk h => h.put hk (by omega) r') ?hA (fun W r r' hk => Kpo.put hk r') (fun A B C h k => h.trans k) ?assign ?body ?iter
  case hA =>
    rintro s x a' W r r' hk ⟨hj, hs, hl, Bx, hb, rfl⟩
    exact ⟨hj.put hk (by omega) r', hs.kpo (Kpo.put hk r'), hl, Bx, cells_putLoop hb hk r', rfl⟩
  case assign =>
    rintro s x W r K hk hj ⟨hs, hl⟩ hK
    have b1 := (Below.refl W.heap.size W).alloc (Nat.le_refl _) (.cells #[.bool (ng x.1), .slice x.2 (ln (am x.1)) (ln (am x.1))] 25)
    have hK' := hK _ _ b1 (Kpo.below b1 hj.lt) ⟨hj.below b1, hs.below b1 hj.lt, hl, W.heap.size, World.alloc_heap_new W _, rfl⟩
    clear hK
    simp only [vI] at hK' ⊢
    gi_wp2
    exact hK'
  case body =>
    rintro s x a' V r hk ⟨hj, hs, hl, Bx, hb, rfl⟩
    obtain ⟨v, hv, hrow⟩ := hj.ex
    have hcv := hv.cell
    have y0 : V.cell? ⟨Bx, 0, none⟩ = some (.bool (ng x.1)) := by simp [World.cell?, hb]
    have y1 : V.cell? ⟨Bx, 1, none⟩ = some (.slice x.2 (ln (am x.1)) (ln (am x.1))) := by simp [World.cell?, hb]
    have hle := hj.le
    have hlt := hj.lt
    gi_wp2_with (gi_at_builtin; refine wpListIn_append_liesI _ rfl _ _ 28 rfl w.heap.size 25 i0 _ 2 32 Try.underlying28 hi hz0 hz1 hz2 rfl (by decide) _ _ _ rfl (ownsRow_keep hrow fun k cur t fz hh => (Below.heap_alloc _ _ _ (Array.getElem?_eq_some_iff.1 hh).1).trans hh) ⟨V.heap.size, 0, none⟩ 1 1 (csI x) rfl rfl (World.news_of_block (World.alloc_heap_new V _)) (csI_one x) (by decide) (by simp [maxLen]; omega) (by omega) (by simp; omega) (V.heap.size + 1) (by simp) ?_; intro g cap w1 hown' hgrow hg hglt; obtain ⟨hv1, hJ9, hK9, hO9⟩ := hj.appended hv hrow hs hown' hgrow hg; have hc1 := hv1.cell; have hf1 := hv1.frozen)
    exact ⟨fun r h => h.others hO9, hK9, hJ9⟩
  case iter =>
    intro r W1 hk hW1 hY
    have b1 : Below W0.heap.size W0 W1 := by
      rw [hW1]
      exact ((Below.refl W0.heap.size W0).alloc (Nat.le_refl _) _).alloc (by simp) _
    refine (numbers1_is W0.heap.size w.heap.size w.heap.size N w r W1 cF sn a n cp X b m cp2 Y hY0 hc hm hc2 hm2 ((b1.block cF (Array.getElem?_eq_some_iff.1 hF1).1).trans hF1) (cA.below b1 hJ0.lt) (cB.below b1 hJ0.lt) (hJ0.below b1) hk hN hY).mono ?_
    rintro e W2 ⟨he, hk2, s, hs, hj⟩
    refine ⟨he, hk2, fun r' => ?_⟩
    have hj2 := hj.put hk2 (by omega) r'
    have hk3 := hk2.put r'
    generalize W2.putObj (W0.heap.size + 1) (.loop r') = W3 at hj2 hk3
    obtain ⟨v, hv, hrow⟩ := hj2.ex
    have hcv := hv.cell
    gi_wp2
    refine ⟨by simp, .inl ⟨_, _, rfl, run_takeDeferred hk3.dfr, ?_⟩⟩
    exact ⟨_, results_tmp rfl _ _ _, v, s, rfl, hs, ownsRow_keep hrow fun k cur t fz hh => cells_putDfr hh hk3 _, fun x hx => ((hj2.num x hx).seg).putDfr hk3 _, below_putDfr hj2.bel (by omega) _⟩

/-- a list of whole numbers in memory, made since base -/
structure IL (base : Nat) (W : World) (v : Value) (l : List Int) : Prop where
  ex : ∃ s : List (Int × Option Addr), s.map Prod.fst = l ∧ W.ownsRow base 25 2 v s.length (cellsI s) ∧ ∀ x ∈ s, Seg W x.2 (am x.1) (ln (am x.1))
theorem IL.below {base : Nat} {W W' : World} {v : Value} {l : List Int} (h : IL base W v l) (hb : Below W.heap.size W W') : IL base W' v l := by
  obtain ⟨s, e, hr, hs⟩ := h.ex
  exact ⟨s, e, ownsRow_keep hr fun k cur t fz hh => (hb.block k (Array.getElem?_eq_some_iff.1 hh).1).trans hh, fun x hx => (hs x hx).below hb (Nat.le_refl _)⟩
theorem IL.base {base base' : Nat} {W : World} {v : Value} {l : List Int} (h : IL base W v l) (hb : base' ≤ base) : IL base' W v l := by
  obtain ⟨s, e, hr, hs⟩ := h.ex
  refine ⟨s, e, ⟨hr.1, ?_⟩, hs⟩
  rcases hr.2 with h0 | ⟨g, cap, cur, hv, hg, hc, rest⟩
  · exact Or.inl h0
  · exact Or.inr ⟨g, cap, cur, hv, by omega, hc, rest⟩

set_option maxRecDepth 100000 in
set_option maxHeartbeats 1000000 in
theorem collect_is (N : Nat) (w : World) (cF : Nat) (sn : Bool) (a : Option Addr) (n cp X : Nat) (b : Option Addr) (m cp2 Y : Nat)
    (hY0 : Y ≠ 0) (hc : n ≤ cp) (hm : n ≤ 1099511627776) (hc2 : m ≤ cp2) (hm2 : m ≤ 1099511627776) (hF : w.heap[cF]? = some (.cells #[.bool sn, .slice a n cp, .bool false, .slice b m cp2] 45 (0, 0)))
    (hSa : Seg w a X n) (hSb : Seg w b Y m) (hN : (cf (sg sn X) Y).length ≤ N) (hN2 : N ≤ 4294967296) :
    Calls Try.prog 15 #[.func (.func 36) #[] #[.pointer (some ⟨cF, 0, none⟩)]] w fun e w' => ∃ v, e = .returned v ∧ IL w.heap.size w' v (cf (sg sn X) Y) ∧ Below w.heap.size w w' := by
  have hC := hide' (appendSeq_is N w cF sn a n cp X b m cp2 Y hY0 hc hm hc2 hm2 hF hSa hSb hN hN2)
  go_enter Try.func15, Try.ntmps15
  go_wp2_with (go_at_call 35; refine hC.out.mono ?_; rintro e w1 ⟨v, s, rfl, hs, hr, hn, hb⟩)
  go_ret
  exact ⟨v, rfl, ⟨s, hs, hr, hn⟩, hb⟩

theorem numbers_is (s : Bool) (ao : Option Addr) (n cap : Nat) (t : Bool) (ao2 : Option Addr) (m cap2 : Nat) (w : World) :
    Calls Try.prog 16 #[.agg #[.bool s, .slice ao n cap, .bool t, .slice ao2 m cap2]] w fun e w' => e = .returned (.func (.func 36) #[] #[.pointer (some ⟨w.heap.size, 0, none⟩)]) ∧ w' = w.alloc (.cells #[.bool s, .slice ao n cap, .bool t, .slice ao2 m cap2] 45) := by
  go_enter Try.func16, Try.ntmps16
  go_wp2
  go_ret
  exact ⟨rfl, rfl⟩

set_option maxRecDepth 100000 in
set_option maxHeartbeats 1000000 in
theorem qExpand_is (N : Nat) (s : Bool) (ao : Option Addr) (n cap X : Nat) (ao2 : Option Addr) (m cap2 Y : Nat) (w : World) (hc : n ≤ cap) (hm : n ≤ 1099511627776) (hS : Seg w ao X n) (hc2 : m ≤ cap2) (hm2 : m ≤ 1099511627776) (hS2 : Seg w ao2 Y m) (hN : (cf (rn s X Y) (rd Y)).length ≤ N) (hN2 : N ≤ 4294967296) :
    Calls Try.prog 5 #[.agg #[.bool s, .slice ao n cap, .slice ao2 m cap2]] w fun e w' => ∃ v, e = .returned v ∧ IL w.heap.size w' v (cf (rn s X Y) (rd Y)) ∧ Below w.heap.size w w' := by
  have bA := below_alloc (w := w) (.cells #[.bool s, .slice ao n cap, .slice ao2 m cap2] 27)
  have hC := hide' (read_is s ao n cap X ao2 m cap2 Y 1099511627776 _ hc hm (hS.later bA) hc2 hm2 (hS2.later bA) (by omega) (by omega))
  go_enter Try.func5, Try.ntmps5
  go_wp2_with (go_at_call 17; refine hC.out.mono ?_; rintro e w1 ⟨s', p, n', c', X', q, m', c2', rfl, k1, k2, k3, k4, k5, k6, k7, k8⟩)
  refine (numbers_is s' p n' c' false q m' c2' w1).mono ?_
  rintro e w2 ⟨rfl, rfl⟩
  have b2 := below_alloc (w := w1) (.cells #[.bool s', .slice p n' c', .bool false, .slice q m' c2'] 45)
  have hD := hide' (collect_is N (w1.alloc (.cells #[.bool s', .slice p n' c', .bool false, .slice q m' c2'] 45)) w1.heap.size s' p n' c' X' q m' c2' (rd Y) (Nat.pos_iff_ne_zero.1 (rd_pos Y)) k1 k2 k3 k4 (World.alloc_heap_new w1 _) (k5.later b2) (k6.later b2) (by rw [k7]; exact hN) hN2)
  have bB := bA.trans (k8.mono bA.size)
  have bC := bB.trans (b2.mono bB.size)
  have hs1 := bC.size
  rw [k7] at hD
  go_wp2_with (go_at_call 15; refine hD.out.mono ?_; rintro e w3 ⟨v, rfl, hI, b3⟩)
  go_ret
  exact ⟨v, rfl, hI.base hs1, bC.trans (b3.mono hs1)⟩
end Go.Proofs.Ytapjaceahifihaa
