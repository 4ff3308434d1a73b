/-
  The numbers of a continued fraction, one by one: the program's iterator, handed to a loop that keeps them.
-/
import Derived.Test.YtapjaceahifihaaWJ2
import Derived.Test.YtapjaceahifihaaWIA
import Derived.Test.YtapjaceahifihaaNumX
namespace Go.Proofs.Ytapjaceahifihaa
open Go.RowKit Go.Shelf
set_option linter.unusedVariables false
set_option linter.unusedSimpArgs false
attribute [local go_sem] Oper.semAt_some

open Classical in
/-- the number of the slice in a cell: a measure -/
noncomputable def numAt (c o : Nat) (W : World) : Nat := if h : ∃ r a n cap, W.cell? ⟨c, o, none⟩ = some (.slice a n cap) ∧ Seg W a r n then h.choose else 0
theorem seg_uniqJ {w : World} {a : Option Addr} {X Y n : Nat} (h : Seg w a X n) (k : Seg w a Y n) : X = Y := by
  rcases Nat.eq_zero_or_pos n with h0 | h0
  · subst h0
    rw [h.zero, k.zero]
  · obtain ⟨b, off, rfl, hl, hc⟩ := h.2 h0
    have hk := k.cells
    refine dg_ext h.1 k.1 fun i hi => ?_
    have h1 := hc i hi
    rw [hk i hi] at h1
    simp only [Option.some.injEq, Value.int.injEq, true_and] at h1
    omega
theorem numAt_eq {c o : Nat} {W : World} {a : Option Addr} {r n cap : Nat} (hc : W.cell? ⟨c, o, none⟩ = some (.slice a n cap)) (h : Seg W a r n) : numAt c o W = r := by
  have hx : ∃ r a n cap, W.cell? ⟨c, o, none⟩ = some (.slice a n cap) ∧ Seg W a r n := ⟨r, a, n, cap, hc, h⟩
  unfold numAt
  rw [dif_pos hx]
  have sp := hx.choose_spec
  generalize hx.choose = q at sp ⊢
  obtain ⟨a', n', cap', hc', hs'⟩ := sp
  rw [hc] at hc'
  simp only [Option.some.injEq, Value.slice.injEq] at hc'
  obtain ⟨rfl, rfl, rfl⟩ := hc'
  exact seg_uniqJ hs' h

theorem floor_rest {V : Nat} {Zg : Int} (hV : V ≠ 0) (h : sgn Zg = 0 ∨ sgn Zg = sgn (sg false V)) (hlt : am Zg < V) : 0 ≤ Zg ∧ Zg < (V : Int) := by
  have h1 : sgn (sg false V) = 1 := by simp [sg, sgn, hV]
  have h2 : ¬ Zg < 0 := fun hn => by
    have h3 : sgn Zg = -1 := by simp [sgn, hn]
    rw [h1, h3] at h
    omega
  unfold am at hlt
  omega
theorem cf_step {A Zf Zg : Int} {Y : Nat} (hY : Y ≠ 0) (e : Zf * (Y : Int) + Zg = A) (h0 : 0 ≤ Zg) (h1 : Zg < Y) : A / (Y : Int) = Zf ∧ A % (Y : Int) = Zg := by
  have hd : (Y : Int) ≠ 0 := by omega
  subst e
  constructor
  · rw [Int.add_comm, Int.add_mul_ediv_right _ _ hd, Int.ediv_eq_zero_of_lt h0 h1, Int.zero_add]
  · rw [Int.add_comm, Int.add_mul_emod_self_right, Int.emod_eq_of_lt h0 h1]

set_option maxRecDepth 100000 in
set_option maxHeartbeats 4000000 in
theorem numbers1_is (D n₀ B N : Nat) (w0 : World) (r : Loop) (W1 : World) (cF : Nat) (sn : Bool) (a : Option Addr) (n cp X : Nat) (b : Option Addr) (m cp2 Y : Nat)
    (hY0 : Y ≠ 0) (hc : n ≤ cp) (hm : n ≤ 1099511627776) (hc2 : m ≤ cp2) (hm2 : m ≤ 1099511627776) (hF : W1.heap[cF]? = some (.cells #[.bool sn, .slice a n cp, .bool false, .slice b m cp2] 45 (0, 0)))
    (hSa : SegC B W1 a X n) (hSb : SegC B W1 b Y m) (hJ0 : JI B n₀ w0 [] W1) (hk : Bk D r W1) (hN : (cf (sg sn X) Y).length ≤ N)
    (hY : ∀ s x W, Bk D r W → JI B n₀ w0 s W → (SegC B W x.2 (am x.1) (ln (am x.1)) ∧ s.length < N) → YieldAt Fence.wide 1 Try.prog (D + 1) #[vI x] W fun e W' => e = .returned (.bool true) ∧ Bk D r W' ∧ JI B n₀ w0 (s ++ [x]) W' ∧ Kpo B W W') :
    CallsIn Fence.wide 2 Try.prog 36 #[.func (.yield (D + 1)) #[] #[], .pointer (some ⟨cF, 0, none⟩)] W1 fun e W' => (∃ v, e = .returned v) ∧ Bk D r W' ∧ ∃ s, s.map Prod.fst = cf (sg sn X) Y ∧ JI B n₀ w0 s W' := by
  refine callsIn_of_wp Try.func36 rfl trivial ?_ rfl
  simp only [Try.ntmps36, List.size_toArray, List.length_cons, List.length_nil, Nat.reduceAdd, Nat.reduceSub, Array.replicate_succ, Array.replicate_zero, List.push_toArray, List.append_toArray, List.nil_append, List.cons_append]
  have f0 : W1.cell? ⟨cF, 0, none⟩ = some (.bool sn) := by simp [World.cell?, hF]
  have f1 : W1.cell? ⟨cF, 1, none⟩ = some (.slice a n cp) := by simp [World.cell?, hF]
  have f2 : W1.cell? ⟨cF, 2, none⟩ = some (.bool false) := by simp [World.cell?, hF]
  have f3 : W1.cell? ⟨cF, 3, none⟩ = some (.slice b m cp2) := by simp [World.cell?, hF]
  gi_wp2
  gi_loopw [] (fun wr => ∃ (s : List (Int × Option Addr)) (sx : Bool) (p : Option Addr) (u cu U : Nat) (q : Option Addr) (v cv V : Nat), BoxC B wr W1.heap.size #[.bool sx, .slice p u cu, .bool false, .slice q v cv] 45 ∧ V ≠ 0 ∧ u ≤ cu ∧ u ≤ 1099511627776 ∧ v ≤ cv ∧ v ≤ 1099511627776 ∧ SegC B wr p U u ∧ SegC B wr q V v ∧ s.map Prod.fst ++ cf (sg sx U) V = cf (sg sn X) Y ∧ JI B n₀ w0 s wr ∧ Bk D r wr)
    (fun wr => numAt W1.heap.size 3 wr)
  case atStart =>
    have b0 := (Below.refl W1.heap.size W1).alloc (Nat.le_refl _) (.cells #[.bool sn, .slice a n cp, .bool false, .slice b m cp2] 45)
    exact ⟨[], sn, a, n, cp, X, b, m, cp2, Y, BoxC.new W1 _ _ hJ0.lt hJ0.out, hY0, hc, hm, hc2, hm2, hSa.below b0 hJ0.lt, hSb.below b0 hJ0.lt, rfl, hJ0.below b0, hk.below b0⟩
  case round =>
    obtain ⟨s, sx, p, u, cu, U, q, v, cv, V, hX, hV0, hcu, hmu, hcv, hmv, sp, sq, hcf, hJs, hkr⟩ := hrel
    obtain ⟨Zf, Zg, he, hsg, hlt, hle, hcall⟩ := floor_of sx p u cu U false q v cv V hcu (by omega) hcv (by omega) hV0
    have hZg := floor_rest hV0 hsg hlt
    obtain ⟨hcd, hcm⟩ := cf_step (A := sg sx U) (Zf := Zf) (Zg := Zg) hV0 (by simpa [sg] using he) hZg.1 hZg.2
    have hlen : s.length < N := by
      have h1 : (cf (sg sx U) V).length ≠ 0 := by
        by_cases h0 : sg sx U % (V : Int) = 0
        · rw [cf_end hV0 h0]; simp
        · rw [cf_on hV0 h0]; simp
      have h2 := congrArg List.length hcf
      rw [List.length_append, List.length_map] at h2
      omega
    have x0 := hX.cell 0
    have x1 := hX.cell 1
    have x2 := hX.cell 2
    have x3 := hX.cell 3
    simp only [List.getElem?_toArray, List.getElem?_cons_zero, List.getElem?_cons_succ] at x0 x1 x2 x3
    have hme := hide' (numAt_eq x3 sq.seg)
    have hn1 := hide' (show n₀ ≤ W1.heap.size by have := hJ0.le; have := hJ0.lt; omega)
    have hC := hide' (hcall wr sp.seg sq.seg)
    have HY := hide' hY
    have HF := hide' (And.intro hcf (And.intro hcd hcm))
    clear hcall hcf hY he hsg hcd hcm
    gi_wp2_with (refine ⟨trivial, ?_⟩; gi_at_call 37; refine (callsIn_wide.2 hC.out).mono ?_; rintro e w2 ⟨aq, ar, rfl, nq, nr⟩)
    clear hC x0 x1 x2 x3
    have b2 := nq.below
    have hJ2 := hJs.below b2
    have b4 : Below w2.heap.size w2 ((w2.alloc (.cells #[.bool (ng Zf), .slice aq (ln (am Zf)) (ln (am Zf))] 25)).alloc (.cells #[.bool (ng Zg), .slice ar (ln (am Zg)) (ln (am Zg))] 25)) :=
      ((Below.refl w2.heap.size w2).alloc (Nat.le_refl _) _).alloc (by simp) _
    have hJ3 := hJ2.below ((Below.refl w2.heap.size w2).alloc (Nat.le_refl _) (.cells #[.bool (ng Zf), .slice aq (ln (am Zf)) (ln (am Zf))] 25))
    have bx5 := BoxC.new (B := B) (w2.alloc (.cells #[.bool (ng Zf), .slice aq (ln (am Zf)) (ln (am Zf))] 25)) #[.bool (ng Zg), .slice ar (ln (am Zg)) (ln (am Zg))] 25 hJ3.lt hJ3.out
    rw [World.size_alloc] at bx5
    have hJ4 := hJ2.below b4
    have hk4 := (hkr.below b2).below b4
    have s4q := (SegC.of_new nq hJs.lt hJs.out).below b4 hJ2.lt
    have s4r := (SegC.of_new nr hJs.lt hJs.out).below b4 hJ2.lt
    have sp4 := (sp.below b2 hJs.lt).below b4 hJ2.lt
    have sq4 := (sq.below b2 hJs.lt).below b4 hJ2.lt
    have hX4 := (hX.below b2 hJs.lt).below b4 hJ2.lt
    obtain ⟨fn, tmps, assign, body, hy, hR⟩ := HY.out s (Zf, aq) _ hk4 hJ4 ⟨s4q, hlen⟩
    simp only [vI] at hy
    rw [hy]
    gi_wp2
    refine hR.mono ?_
    clear hR hy HY
    rintro e W5 ⟨rfl, hk5, hJ5, hK5⟩
    have y5 := bx5.kpo hK5
    have sr5 := s4r.kpo hK5
    have sq5 := sq4.kpo hK5
    have hX5 := hX4.kpo hK5
    clear b2 hJ2 b4 hJ3 bx5 hJ4 hk4 s4q s4r sp4 sq4 hX4 hK5 nq nr hX sp sq hkr hJs hF hSa hSb hJ0 hk hN f0 f1 f2 f3
    have y0 := y5.cell 0
    have y1 := y5.cell 1
    simp only [List.getElem?_toArray, List.getElem?_cons_zero, List.getElem?_cons_succ] at y0 y1
    have lG : ln (am Zg) ≤ 1099511627776 := by
      have h1 : ln (am Zg) ≤ ln V := ln_mono (by omega)
      have h2 := ln_le_of_lt sq5.seg.1
      omega
    have hC := hide' (wSign_is (ng Zg) ar (ln (am Zg)) (ln (am Zg)) (am Zg) Zg W5 (Nat.le_refl _) (by omega) sr5.seg (sg_na Zg))
    by_cases h0 : Zg = 0
    · have hs0 := hide' (show sgn Zg = 0 by rw [h0]; rfl)
      have H0 := hide' h0
      clear h0
      gi_wp2_with (refine ⟨trivial, ?_⟩; gi_at_call 25; refine (callsIn_wide.2 hC.out).mono ?_; rintro e w6 ⟨rfl, b6⟩; rw [hs0.out])
      refine bodyPost_ret (results_none rfl _ _ _) rfl ?_
      obtain ⟨hcf, hcd, hcm⟩ := HF.out
      refine ⟨⟨_, rfl⟩, hk5.below b6, s ++ [(Zf, aq)], ?_, hJ5.below b6⟩
      rw [← hcf, cf_end hV0 (hcm.trans H0.out), hcd, List.map_append]
      rfl
    · have hs1 := hide' (show sgn Zg = 1 by simp [sgn, h0]; omega)
      have H0 := hide' h0
      clear h0
      gi_wp2_with (refine ⟨trivial, ?_⟩; gi_at_call 25; refine (callsIn_wide.2 hC.out).mono ?_; rintro e w6 ⟨rfl, b6⟩; rw [hs1.out]; have y6 := y5.below b6 hJ5.lt; have hX6 := hX5.below b6 hJ5.lt; have yy0 := y6.cell 0; have yy1 := y6.cell 1; have xx0 := hX6.cell 0; have xx1 := hX6.cell 1; have xx2 := hX6.cell 2; have xx3 := hX6.cell 3; have zz0 := hX6.frozen 0; have zz1 := hX6.frozen 1; have zz2 := hX6.frozen 2; have zz3 := hX6.frozen 3; simp only [List.getElem?_toArray, List.getElem?_cons_zero, List.getElem?_cons_succ] at yy0 yy1 xx0 xx1 xx2 xx3)
      have hng : ng Zg = false := by simp [ng]; omega
      rw [hng]
      obtain ⟨c7, h7⟩ := set4_is hX6.box (.bool false) (.slice q v cv) (.bool false) (.slice ar (ln (am Zg)) (ln (am Zg)))
      have hno : ∀ o i, w6.cell? ⟨W1.heap.size, o, none⟩ ≠ some (.int .u32 i) := fun o i => by
        rw [hX6.cell o]
        match o with
        | 0 => simp
        | 1 => simp
        | 2 => simp
        | 3 => simp
        | o + 4 => simp
      have hZp : am Zg ≠ 0 := by have := H0.out; unfold am; omega
      have hJ7 := (hJ5.below b6).ch c7 hX6.ne hX6.clr hn1.out hno
      have hk7 := (hk5.below b6).ch c7 hX6.box
      have sq7 := (sq5.below b6 hJ5.lt).ch c7 hX6.ne hno
      have sr7 := (sr5.below b6 hJ5.lt).ch c7 hX6.ne hno
      have hbx : BoxC B _ W1.heap.size _ 45 := ⟨h7, hX6.ne, fun h8 => hX6.clr ((Out.ch c7 hX6.ne).1 h8)⟩
      obtain ⟨hcf, hcd, hcm⟩ := HF.out
      go_roundw
      case rel =>
        refine ⟨s ++ [(Zf, aq)], false, q, v, cv, V, ar, ln (am Zg), ln (am Zg), am Zg, hbx, hZp, hcv, hmv, Nat.le_refl _, lG, sq7, sr7, ?_, hJ7, hk7⟩
        rw [← hcf, cf_on hV0 (by rw [hcm]; exact H0.out), hcd, hcm, List.map_append]
        have e1 : sg false V = (V : Int) := by simp [sg]
        have e2 : Zg.toNat = am Zg := by unfold am; omega
        rw [e1, e2]
        simp
      case measure =>
        have h9 := hbx.cell 3
        simp only [List.getElem?_toArray, List.getElem?_cons_zero, List.getElem?_cons_succ] at h9
        rw [hme.out, numAt_eq h9 sr7.seg]
        exact hlt
end Go.Proofs.Ytapjaceahifihaa
