/-
  Expand: the numbers of a continued fraction as a list (slices.Collect, slices.AppendSeq).
-/
import Derived.Test.YtpifbbopcngdhaaGreatDoorNum
import Derived.Test.YtpifbbopcngdhaaGreatDoorWJ2
import Derived.Test.YtpifbbopcngdhaaGreatDoorWIA
import Derived.Test.YtpifbbopcngdhaaGreatDoorWQ1
namespace Go.Proofs.YtpifbbopcngdhaaGreatDoor
set_option linter.unusedVariables false
set_option linter.unusedSimpArgs false

theorem mod_nat {n : Int} {d : Nat} (hd : d ≠ 0) : ((n % (d : Int)).toNat : Int) = n % (d : Int) ∧ (n % (d : Int)).toNat < d := by
  have h1 := Int.emod_nonneg n (show (d : Int) ≠ 0 by omega)
  have h2 := Int.emod_lt_of_pos n (show (0 : Int) < (d : Int) by omega)
  omega
/-- the numbers of n / d, d above 0 -/
def cf (n : Int) (d : Nat) : List Int :=
  if h : d = 0 then [] else if n % (d : Int) = 0 then [n / (d : Int)] else n / (d : Int) :: cf (d : Int) (n % (d : Int)).toNat
termination_by d
decreasing_by exact (mod_nat h).2
theorem cf_end {n : Int} {d : Nat} (hd : d ≠ 0) (h : n % (d : Int) = 0) : cf n d = [n / (d : Int)] := by
  rw [cf, dif_neg hd, if_pos h]
theorem cf_on {n : Int} {d : Nat} (hd : d ≠ 0) (h : n % (d : Int) ≠ 0) : cf n d = n / (d : Int) :: cf (d : Int) (n % (d : Int)).toNat := by
  rw [cf, dif_neg hd, if_neg h]
/-- two steps halve the second part -/
theorem mod_half {a b : Nat} (hb : b ≠ 0) (h : b ≤ a) : 2 * (a % b) < a := by
  have h1 := Nat.mod_lt a (show 0 < b by omega)
  have h2 := Nat.div_add_mod a b
  have h3 : 1 ≤ a / b := (Nat.le_div_iff_mul_le (by omega)).2 (by omega)
  have h4 : b * 1 ≤ b * (a / b) := Nat.mul_le_mul_left _ h3
  omega
/-- how many there are -/
theorem cf_length : ∀ (k : Nat) (n : Int) (d : Nat), d < 2 ^ k → (cf n d).length ≤ 2 * k + 1
  | 0, n, d, h => by
    have : d = 0 := by simpa using h
    rw [cf, dif_pos this]; simp
  | k + 1, n, d, h => by
    by_cases hd : d = 0
    · rw [cf, dif_pos hd]; simp
    · by_cases h0 : n % (d : Int) = 0
      · rw [cf_end hd h0]; simp
      · obtain ⟨e1, e2⟩ := mod_nat (n := n) hd
        rw [cf_on hd h0]
        generalize (n % (d : Int)).toNat = r at e1 e2
        have hr : r ≠ 0 := fun e => h0 (by rw [← e1, e]; rfl)
        by_cases h1 : ((d : Nat) : Int) % (r : Int) = 0
        · rw [cf_end hr h1]; simp only [List.length_cons, List.length_nil]; omega
        · rw [cf_on hr h1]
          have e3 : (((d : Nat) : Int) % (r : Int)).toNat = d % r := by rw [← Int.natCast_emod]; rfl
          rw [e3]
          have h2 := mod_half hr (Nat.le_of_lt e2)
          have h3 : d % r < 2 ^ k := by rw [Nat.pow_succ] at h; omega
          have h4 := cf_length k (r : Int) (d % r) h3
          simp only [List.length_cons]
          omega
end Go.Proofs.YtpifbbopcngdhaaGreatDoor

namespace Go.Proofs.YtpifbbopcngdhaaGreatDoor
open Go.RowKit Go.Shelf
set_option linter.unusedVariables false
set_option linter.unusedSimpArgs false
attribute [local go_sem] Oper.semAt_some

open Classical in
/-- the number of the slice in a cell: a measure -/
noncomputable def numAt (c o : Nat) (W : World) : Nat := if h : ∃ r a n cap, W.cell? ⟨c, o, none⟩ = some (.slice a n cap) ∧ Seg W a r n then h.choose else 0
theorem seg_uniqJ {w : World} {a : Option Addr} {X Y n : Nat} (h : Seg w a X n) (k : Seg w a Y n) : X = Y := by
  rcases Nat.eq_zero_or_pos n with h0 | h0
  · subst h0
    rw [h.zero, k.zero]
  · obtain ⟨b, off, rfl, hl, hc⟩ := h.2 h0
    have hk := k.cells
    refine dg_ext h.1 k.1 fun i hi => ?_
    have h1 := hc i hi
    rw [hk i hi] at h1
    simp only [Option.some.injEq, Value.int.injEq, true_and] at h1
    omega
theorem numAt_eq {c o : Nat} {W : World} {a : Option Addr} {r n cap : Nat} (hc : W.cell? ⟨c, o, none⟩ = some (.slice a n cap)) (h : Seg W a r n) : numAt c o W = r := by
  have hx : ∃ r a n cap, W.cell? ⟨c, o, none⟩ = some (.slice a n cap) ∧ Seg W a r n := ⟨r, a, n, cap, hc, h⟩
  unfold numAt
  rw [dif_pos hx]
  have sp := hx.choose_spec
  generalize hx.choose = q at sp ⊢
  obtain ⟨a', n', cap', hc', hs'⟩ := sp
  rw [hc] at hc'
  simp only [Option.some.injEq, Value.slice.injEq] at hc'
  obtain ⟨rfl, rfl, rfl⟩ := hc'
  exact seg_uniqJ hs' h

theorem floor_rest {V : Nat} {Zg : Int} (hV : V ≠ 0) (h : sgn Zg = 0 ∨ sgn Zg = sgn (sg false V)) (hlt : am Zg < V) : 0 ≤ Zg ∧ Zg < (V : Int) := by
  have h1 : sgn (sg false V) = 1 := by simp [sg, sgn, hV]
  have h2 : ¬ Zg < 0 := fun hn => by
    have h3 : sgn Zg = -1 := by simp [sgn, hn]
    rw [h1, h3] at h
    omega
  unfold am at hlt
  omega
theorem cf_step {A Zf Zg : Int} {Y : Nat} (hY : Y ≠ 0) (e : Zf * (Y : Int) + Zg = A) (h0 : 0 ≤ Zg) (h1 : Zg < Y) : A / (Y : Int) = Zf ∧ A % (Y : Int) = Zg := by
  have hd : (Y : Int) ≠ 0 := by omega
  subst e
  constructor
  · rw [Int.add_comm, Int.add_mul_ediv_right _ _ hd, Int.ediv_eq_zero_of_lt h0 h1, Int.zero_add]
  · rw [Int.add_comm, Int.add_mul_emod_self_right, Int.emod_eq_of_lt h0 h1]

set_option maxRecDepth 100000 in
set_option maxHeartbeats 4000000 in
theorem numbers1_is (D n₀ B N : Nat) (w0 : World) (r : Loop) (W1 : World) (cF : Nat) (sn : Bool) (a : Option Addr) (n cp X : Nat) (b : Option Addr) (m cp2 Y : Nat)
    (hY0 : Y ≠ 0) (hc : n ≤ cp) (hm : n ≤ 1099511627776) (hc2 : m ≤ cp2) (hm2 : m ≤ 1099511627776) (hF : W1.heap[cF]? = some (.cells #[.bool sn, .slice a n cp, .bool false, .slice b m cp2] 41 (0, 0)))
    (hSa : SegC B W1 a X n) (hSb : SegC B W1 b Y m) (hJ0 : JI B n₀ w0 [] W1) (hk : Bk D r W1) (hN : (cf (sg sn X) Y).length ≤ N)
    (hY : ∀ s x W, Bk D r W → JI B n₀ w0 s W → (SegC B W x.2 (am x.1) (ln (am x.1)) ∧ s.length < N) → YieldAt Fence.wide 1 Tryz.prog (D + 1) #[vI x] W fun e W' => e = .returned (.bool true) ∧ Bk D r W' ∧ JI B n₀ w0 (s ++ [x]) W' ∧ Kpo B W W') :
    CallsIn Fence.wide 2 Tryz.prog 44 #[.func (.yield (D + 1)) #[] #[], .pointer (some ⟨cF, 0, none⟩)] W1 fun e W' => (∃ v, e = .returned v) ∧ Bk D r W' ∧ ∃ s, s.map Prod.fst = cf (sg sn X) Y ∧ JI B n₀ w0 s W' := by
  refine callsIn_of_wp Tryz.func44 rfl trivial ?_ rfl
  simp only [Tryz.ntmps44, List.size_toArray, List.length_cons, List.length_nil, Nat.reduceAdd, Nat.reduceSub, Array.replicate_succ, Array.replicate_zero, List.push_toArray, List.append_toArray, List.nil_append, List.cons_append]
  have f0 : W1.cell? ⟨cF, 0, none⟩ = some (.bool sn) := by simp [World.cell?, hF]
  have f1 : W1.cell? ⟨cF, 1, none⟩ = some (.slice a n cp) := by simp [World.cell?, hF]
  have f2 : W1.cell? ⟨cF, 2, none⟩ = some (.bool false) := by simp [World.cell?, hF]
  have f3 : W1.cell? ⟨cF, 3, none⟩ = some (.slice b m cp2) := by simp [World.cell?, hF]
  gi_wp2
  gi_loopw [] (fun wr => ∃ (s : List (Int × Option Addr)) (sx : Bool) (p : Option Addr) (u cu U : Nat) (q : Option Addr) (v cv V : Nat), BoxC B wr W1.heap.size #[.bool sx, .slice p u cu, .bool false, .slice q v cv] 41 ∧ V ≠ 0 ∧ u ≤ cu ∧ u ≤ 1099511627776 ∧ v ≤ cv ∧ v ≤ 1099511627776 ∧ SegC B wr p U u ∧ SegC B wr q V v ∧ s.map Prod.fst ++ cf (sg sx U) V = cf (sg sn X) Y ∧ JI B n₀ w0 s wr ∧ Bk D r wr)
    (fun wr => numAt W1.heap.size 3 wr)
  case atStart =>
    have b0 := (Below.refl W1.heap.size W1).alloc (Nat.le_refl _) (.cells #[.bool sn, .slice a n cp, .bool false, .slice b m cp2] 41)
    exact ⟨[], sn, a, n, cp, X, b, m, cp2, Y, BoxC.new W1 _ _ hJ0.lt hJ0.out, hY0, hc, hm, hc2, hm2, hSa.below b0 hJ0.lt, hSb.below b0 hJ0.lt, rfl, hJ0.below b0, hk.below b0⟩
  case round =>
    obtain ⟨s, sx, p, u, cu, U, q, v, cv, V, hX, hV0, hcu, hmu, hcv, hmv, sp, sq, hcf, hJs, hkr⟩ := hrel
    obtain ⟨Zf, Zg, he, hsg, hlt, hle, hcall⟩ := floor_of sx p u cu U false q v cv V hcu (by omega) hcv (by omega) hV0
    have hZg := floor_rest hV0 hsg hlt
    obtain ⟨hcd, hcm⟩ := cf_step (A := sg sx U) (Zf := Zf) (Zg := Zg) hV0 (by simpa [sg] using he) hZg.1 hZg.2
    have hlen : s.length < N := by
      have h1 : (cf (sg sx U) V).length ≠ 0 := by
        by_cases h0 : sg sx U % (V : Int) = 0
        · rw [cf_end hV0 h0]; simp
        · rw [cf_on hV0 h0]; simp
      have h2 := congrArg List.length hcf
      rw [List.length_append, List.length_map] at h2
      omega
    have x0 := hX.cell 0
    have x1 := hX.cell 1
    have x2 := hX.cell 2
    have x3 := hX.cell 3
    simp only [List.getElem?_toArray, List.getElem?_cons_zero, List.getElem?_cons_succ] at x0 x1 x2 x3
    have hme := hide' (numAt_eq x3 sq.seg)
    have hn1 := hide' (show n₀ ≤ W1.heap.size by have := hJ0.le; have := hJ0.lt; omega)
    have hC := hide' (hcall wr sp.seg sq.seg)
    have HY := hide' hY
    have HF := hide' (And.intro hcf (And.intro hcd hcm))
    clear hcall hcf hY he hsg hcd hcm
    gi_wp2_with (refine ⟨trivial, ?_⟩; gi_at_call 45; refine (callsIn_wide.2 hC.out).mono ?_; rintro e w2 ⟨aq, ar, rfl, nq, nr⟩)
    clear hC x0 x1 x2 x3
    have b2 := nq.below
    have hJ2 := hJs.below b2
    have b4 : Below w2.heap.size w2 ((w2.alloc (.cells #[.bool (ng Zf), .slice aq (ln (am Zf)) (ln (am Zf))] 25)).alloc (.cells #[.bool (ng Zg), .slice ar (ln (am Zg)) (ln (am Zg))] 25)) :=
      ((Below.refl w2.heap.size w2).alloc (Nat.le_refl _) _).alloc (by simp) _
    have hJ3 := hJ2.below ((Below.refl w2.heap.size w2).alloc (Nat.le_refl _) (.cells #[.bool (ng Zf), .slice aq (ln (am Zf)) (ln (am Zf))] 25))
    have bx5 := BoxC.new (B := B) (w2.alloc (.cells #[.bool (ng Zf), .slice aq (ln (am Zf)) (ln (am Zf))] 25)) #[.bool (ng Zg), .slice ar (ln (am Zg)) (ln (am Zg))] 25 hJ3.lt hJ3.out
    rw [World.size_alloc] at bx5
    have hJ4 := hJ2.below b4
    have hk4 := (hkr.below b2).below b4
    have s4q := (SegC.of_new nq hJs.lt hJs.out).below b4 hJ2.lt
    have s4r := (SegC.of_new nr hJs.lt hJs.out).below b4 hJ2.lt
    have sp4 := (sp.below b2 hJs.lt).below b4 hJ2.lt
    have sq4 := (sq.below b2 hJs.lt).below b4 hJ2.lt
    have hX4 := (hX.below b2 hJs.lt).below b4 hJ2.lt
    obtain ⟨fn, tmps, assign, body, hy, hR⟩ := HY.out s (Zf, aq) _ hk4 hJ4 ⟨s4q, hlen⟩
    simp only [vI] at hy
    rw [hy]
    gi_wp2
    refine hR.mono ?_
    clear hR hy HY
    rintro e W5 ⟨rfl, hk5, hJ5, hK5⟩
    have y5 := bx5.kpo hK5
    have sr5 := s4r.kpo hK5
    have sq5 := sq4.kpo hK5
    have hX5 := hX4.kpo hK5
    clear b2 hJ2 b4 hJ3 bx5 hJ4 hk4 s4q s4r sp4 sq4 hX4 hK5 nq nr hX sp sq hkr hJs hF hSa hSb hJ0 hk hN f0 f1 f2 f3
    have y0 := y5.cell 0
    have y1 := y5.cell 1
    simp only [List.getElem?_toArray, List.getElem?_cons_zero, List.getElem?_cons_succ] at y0 y1
    have lG : ln (am Zg) ≤ 1099511627776 := by
      have h1 : ln (am Zg) ≤ ln V := ln_mono (by omega)
      have h2 := ln_le_of_lt sq5.seg.1
      omega
    have hC := hide' (wSign_is (ng Zg) ar (ln (am Zg)) (ln (am Zg)) (am Zg) Zg W5 (Nat.le_refl _) (by omega) sr5.seg (sg_na Zg))
    by_cases h0 : Zg = 0
    · have hs0 := hide' (show sgn Zg = 0 by rw [h0]; rfl)
      have H0 := hide' h0
      clear h0
      gi_wp2_with (refine ⟨trivial, ?_⟩; gi_at_call 22; refine (callsIn_wide.2 hC.out).mono ?_; rintro e w6 ⟨rfl, b6⟩; rw [hs0.out])
      refine bodyPost_ret (results_none rfl _ _ _) rfl ?_
      obtain ⟨hcf, hcd, hcm⟩ := HF.out
      refine ⟨⟨_, rfl⟩, hk5.below b6, s ++ [(Zf, aq)], ?_, hJ5.below b6⟩
      rw [← hcf, cf_end hV0 (hcm.trans H0.out), hcd, List.map_append]
      rfl
    · have hs1 := hide' (show sgn Zg = 1 by simp [sgn, h0]; omega)
      have H0 := hide' h0
      clear h0
      gi_wp2_with (refine ⟨trivial, ?_⟩; gi_at_call 22; refine (callsIn_wide.2 hC.out).mono ?_; rintro e w6 ⟨rfl, b6⟩; rw [hs1.out]; have y6 := y5.below b6 hJ5.lt; have hX6 := hX5.below b6 hJ5.lt; have yy0 := y6.cell 0; have yy1 := y6.cell 1; have xx0 := hX6.cell 0; have xx1 := hX6.cell 1; have xx2 := hX6.cell 2; have xx3 := hX6.cell 3; have zz0 := hX6.frozen 0; have zz1 := hX6.frozen 1; have zz2 := hX6.frozen 2; have zz3 := hX6.frozen 3; simp only [List.getElem?_toArray, List.getElem?_cons_zero, List.getElem?_cons_succ] at yy0 yy1 xx0 xx1 xx2 xx3)
      have hng : ng Zg = false := by simp [ng]; omega
      rw [hng]
      obtain ⟨c7, h7⟩ := set4_is hX6.box (.bool false) (.slice q v cv) (.bool false) (.slice ar (ln (am Zg)) (ln (am Zg)))
      have hno : ∀ o i, w6.cell? ⟨W1.heap.size, o, none⟩ ≠ some (.int .u32 i) := fun o i => by
        rw [hX6.cell o]
        match o with
        | 0 => simp
        | 1 => simp
        | 2 => simp
        | 3 => simp
        | o + 4 => simp
      have hZp : am Zg ≠ 0 := by have := H0.out; unfold am; omega
      have hJ7 := (hJ5.below b6).ch c7 hX6.ne hX6.clr hn1.out hno
      have hk7 := (hk5.below b6).ch c7 hX6.box
      have sq7 := (sq5.below b6 hJ5.lt).ch c7 hX6.ne hno
      have sr7 := (sr5.below b6 hJ5.lt).ch c7 hX6.ne hno
      have hbx : BoxC B _ W1.heap.size _ 41 := ⟨h7, hX6.ne, fun h8 => hX6.clr ((Out.ch c7 hX6.ne).1 h8)⟩
      obtain ⟨hcf, hcd, hcm⟩ := HF.out
      go_roundw
      case rel =>
        refine ⟨s ++ [(Zf, aq)], false, q, v, cv, V, ar, ln (am Zg), ln (am Zg), am Zg, hbx, hZp, hcv, hmv, Nat.le_refl _, lG, sq7, sr7, ?_, hJ7, hk7⟩
        rw [← hcf, cf_on hV0 (by rw [hcm]; exact H0.out), hcd, hcm, List.map_append]
        have e1 : sg false V = (V : Int) := by simp [sg]
        have e2 : Zg.toNat = am Zg := by unfold am; omega
        rw [e1, e2]
        simp
      case measure =>
        have h9 := hbx.cell 3
        simp only [List.getElem?_toArray, List.getElem?_cons_zero, List.getElem?_cons_succ] at h9
        rw [hme.out, numAt_eq h9 sr7.seg]
        exact hlt
end Go.Proofs.YtpifbbopcngdhaaGreatDoor

namespace Go.Proofs.YtpifbbopcngdhaaGreatDoor
open Go.RowKit Go.Shelf
set_option linter.unusedVariables false
set_option linter.unusedSimpArgs false
attribute [local go_sem] Oper.semAt_some

theorem info_IntJ : (Tryz.prog.info? 25).map (fun i => (i.zero, i.size, i.bytes)) = some (some (.agg #[.bool false, .slice none 0 0]), 2, 32) := by kernel_rfl

set_option maxRecDepth 100000 in
set_option maxHeartbeats 4000000 in
theorem appendSeq_is (N : Nat) (w : World) (cF : Nat) (sn : Bool) (a : Option Addr) (n cp X : Nat) (b : Option Addr) (m cp2 Y : Nat)
    (hY0 : Y ≠ 0) (hc : n ≤ cp) (hm : n ≤ 1099511627776) (hc2 : m ≤ cp2) (hm2 : m ≤ 1099511627776) (hF : w.heap[cF]? = some (.cells #[.bool sn, .slice a n cp, .bool false, .slice b m cp2] 41 (0, 0)))
    (hSa : Seg w a X n) (hSb : Seg w b Y m) (hN : (cf (sg sn X) Y).length ≤ N) (hN2 : N ≤ 8589934592) :
    Calls Tryz.prog 43 #[.slice none 0 0, .func (.func 44) #[] #[.pointer (some ⟨cF, 0, none⟩)]] w fun e w' => ∃ v s, e = .returned v ∧ s.map Prod.fst = cf (sg sn X) Y ∧ w'.ownsRow w.heap.size 25 2 v s.length (cellsI s) ∧ (∀ x ∈ s, Seg w' x.2 (am x.1) (ln (am x.1))) ∧ Below w.heap.size w w' := by
  refine (callsIn_wide (n := 3)).1 ?_
  refine callsIn_of_wp_marks Tryz.func43 rfl trivial ?_ rfl
  simp only [Tryz.ntmps43, List.size_toArray, List.length_cons, List.length_nil, Nat.reduceAdd, Nat.reduceSub, Array.replicate_succ, Array.replicate_zero, List.push_toArray, List.append_toArray, List.nil_append, List.cons_append]
  obtain ⟨i0, hi, hz0, hz1, hz2⟩ := info_parts info_IntJ
  have bO := Boxed.new w 34 (.slice none 0 0)
  have b0 := (Below.refl w.heap.size w).alloc (Nat.le_refl _) (.cells #[.slice none 0 0] 34)
  have hJ0 : JI w.heap.size w.heap.size w [] (w.alloc (.cells #[.slice none 0 0] 34)) := ⟨⟨_, bO, World.ownsRow_nil _ _ _ _⟩, by simp, b0, Nat.le_refl _⟩
  have hno : ∀ k, ¬ Out w.heap.size (w.alloc (.cells #[.slice none 0 0] 34)) k := by
    rintro k ⟨v, hv, hk⟩
    rw [bO.cell] at hv
    obtain rfl := Option.some.inj hv
    simp [Value.ownBlock] at hk
  have toC : ∀ {ao : Option Addr} {Z l : Nat}, Seg w ao Z l → SegC w.heap.size (w.alloc (.cells #[.slice none 0 0] 34)) ao Z l := fun h =>
    ⟨h.below b0 (Nat.le_refl _), fun hn b off e => ⟨fun eb => by obtain ⟨b', off', e', hl, _⟩ := h.2 hn; rw [e] at e'; simp only [Option.some.injEq, Addr.mk.injEq, and_true] at e'; omega, hno b⟩⟩
  have cA := toC hSa
  have cB := toC hSb
  have hF1 := (b0.block cF (Array.getElem?_eq_some_iff.1 hF).1).trans hF
  clear toC
  gi_wp2
  obtain ⟨W0, hW0⟩ : ∃ W0, w.alloc (.cells #[.slice none 0 0] 34) = W0 := ⟨_, rfl⟩
  have hsz : W0.heap.size = w.heap.size + 1 := by rw [← hW0]; simp
  rw [hW0] at bO b0 hJ0 hno cA cB hF1 ⊢
  refine range_all (gf := 44) (lb := #[.pointer (some ⟨cF, 0, none⟩)]) rfl (enters_of Tryz.func44 (by kernel_rfl) rfl) (fun x => #[vI x]) (fun _ => rfl)
    (JI w.heap.size w.heap.size w) (fun s x W => SegC w.heap.size W x.2 (am x.1) (ln (am x.1)) ∧ s.length < N) (Kpo w.heap.size)
    (fun s x a' V => JI w.heap.size w.heap.size w s V ∧ SegC w.heap.size V x.2 (am x.1) (ln (am x.1)) ∧ s.length < N ∧ ∃ Bx, V.heap[Bx]? = some (.cells #[.bool (ng x.1), .slice x.2 (ln (am x.1)) (ln (am x.1))] 25 (0, 0)) ∧ a' = { tmps := #[.slice none 0 0, .func (.func 44) #[] #[.pointer (some ⟨cF, 0, none⟩)], .pointer (some ⟨w.heap.size, 0, none⟩), undef, .slice none 0 0, .pointer (some ⟨Bx, 0, none⟩), .func (.func 44) #[] #[.pointer (some ⟨cF, 0, none⟩)], vI x, undef, undef, undef, undef, undef], defers := [] })
    (fun s W r r' hk h => h.put hk (by omega) r') ?hA (fun W r r' hk => Kpo.put hk r') (fun A B C h k => h.trans k) ?assign ?body ?iter
  case hA =>
    rintro s x a' W r r' hk ⟨hj, hs, hl, Bx, hb, rfl⟩
    exact ⟨hj.put hk (by omega) r', hs.kpo (Kpo.put hk r'), hl, Bx, cells_putLoop hb hk r', rfl⟩
  case assign =>
    rintro s x W r K hk hj ⟨hs, hl⟩ hK
    have b1 := (Below.refl W.heap.size W).alloc (Nat.le_refl _) (.cells #[.bool (ng x.1), .slice x.2 (ln (am x.1)) (ln (am x.1))] 25)
    have hK' := hK _ _ b1 (Kpo.below b1 hj.lt) ⟨hj.below b1, hs.below b1 hj.lt, hl, W.heap.size, World.alloc_heap_new W _, rfl⟩
    clear hK
    simp only [vI] at hK' ⊢
    gi_wp2
    exact hK'
  case body =>
    rintro s x a' V r hk ⟨hj, hs, hl, Bx, hb, rfl⟩
    obtain ⟨v, hv, hrow⟩ := hj.ex
    have hcv := hv.cell
    have y0 : V.cell? ⟨Bx, 0, none⟩ = some (.bool (ng x.1)) := by simp [World.cell?, hb]
    have y1 : V.cell? ⟨Bx, 1, none⟩ = some (.slice x.2 (ln (am x.1)) (ln (am x.1))) := by simp [World.cell?, hb]
    have hle := hj.le
    have hlt := hj.lt
    gi_wp2_with (gi_at_builtin; refine wpListIn_append_liesI _ rfl _ _ 34 rfl w.heap.size 25 i0 _ 2 32 Tryz.underlying34 hi hz0 hz1 hz2 rfl (by decide) _ _ _ rfl (ownsRow_keep hrow fun k cur t fz hh => (Below.heap_alloc _ _ _ (Array.getElem?_eq_some_iff.1 hh).1).trans hh) ⟨V.heap.size, 0, none⟩ 1 1 (csI x) rfl rfl (World.news_of_block (World.alloc_heap_new V _)) (csI_one x) (by decide) (by simp [maxLen]; omega) (by omega) (by simp; omega) (V.heap.size + 1) (by simp) ?_; intro g cap w1 hown' hgrow hg hglt; obtain ⟨hv1, hJ9, hK9, hO9⟩ := hj.appended hv hrow hs hown' hgrow hg; have hc1 := hv1.cell; have hf1 := hv1.frozen)
    exact ⟨fun r h => h.others hO9, hK9, hJ9⟩
  case iter =>
    intro r W1 hk hW1 hY
    have b1 : Below W0.heap.size W0 W1 := by
      rw [hW1]
      exact ((Below.refl W0.heap.size W0).alloc (Nat.le_refl _) _).alloc (by simp) _
    refine (numbers1_is W0.heap.size w.heap.size w.heap.size N w r W1 cF sn a n cp X b m cp2 Y hY0 hc hm hc2 hm2 ((b1.block cF (Array.getElem?_eq_some_iff.1 hF1).1).trans hF1) (cA.below b1 hJ0.lt) (cB.below b1 hJ0.lt) (hJ0.below b1) hk hN hY).mono ?_
    rintro e W2 ⟨he, hk2, s, hs, hj⟩
    refine ⟨he, hk2, fun r' => ?_⟩
    have hj2 := hj.put hk2 (by omega) r'
    have hk3 := hk2.put r'
    generalize W2.putObj (W0.heap.size + 1) (.loop r') = W3 at hj2 hk3
    obtain ⟨v, hv, hrow⟩ := hj2.ex
    have hcv := hv.cell
    gi_wp2
    refine ⟨by simp, .inl ⟨_, _, rfl, run_takeDeferred hk3.dfr, ?_⟩⟩
    exact ⟨_, results_tmp rfl _ _ _, v, s, rfl, hs, ownsRow_keep hrow fun k cur t fz hh => cells_putDfr hh hk3 _, fun x hx => ((hj2.num x hx).seg).putDfr hk3 _, below_putDfr hj2.bel (by omega) _⟩

/-- a list of whole numbers in memory, made since base -/
structure IL (base : Nat) (W : World) (v : Value) (l : List Int) : Prop where
  ex : ∃ s : List (Int × Option Addr), s.map Prod.fst = l ∧ W.ownsRow base 25 2 v s.length (cellsI s) ∧ ∀ x ∈ s, Seg W x.2 (am x.1) (ln (am x.1))
theorem IL.below {base : Nat} {W W' : World} {v : Value} {l : List Int} (h : IL base W v l) (hb : Below W.heap.size W W') : IL base W' v l := by
  obtain ⟨s, e, hr, hs⟩ := h.ex
  exact ⟨s, e, ownsRow_keep hr fun k cur t fz hh => (hb.block k (Array.getElem?_eq_some_iff.1 hh).1).trans hh, fun x hx => (hs x hx).below hb (Nat.le_refl _)⟩
theorem IL.base {base base' : Nat} {W : World} {v : Value} {l : List Int} (h : IL base W v l) (hb : base' ≤ base) : IL base' W v l := by
  obtain ⟨s, e, hr, hs⟩ := h.ex
  refine ⟨s, e, ⟨hr.1, ?_⟩, hs⟩
  rcases hr.2 with h0 | ⟨g, cap, cur, hv, hg, hc, rest⟩
  · exact Or.inl h0
  · exact Or.inr ⟨g, cap, cur, hv, by omega, hc, rest⟩

set_option maxRecDepth 100000 in
set_option maxHeartbeats 1000000 in
theorem collect_is (N : Nat) (w : World) (cF : Nat) (sn : Bool) (a : Option Addr) (n cp X : Nat) (b : Option Addr) (m cp2 Y : Nat)
    (hY0 : Y ≠ 0) (hc : n ≤ cp) (hm : n ≤ 1099511627776) (hc2 : m ≤ cp2) (hm2 : m ≤ 1099511627776) (hF : w.heap[cF]? = some (.cells #[.bool sn, .slice a n cp, .bool false, .slice b m cp2] 41 (0, 0)))
    (hSa : Seg w a X n) (hSb : Seg w b Y m) (hN : (cf (sg sn X) Y).length ≤ N) (hN2 : N ≤ 8589934592) :
    Calls Tryz.prog 25 #[.func (.func 44) #[] #[.pointer (some ⟨cF, 0, none⟩)]] w fun e w' => ∃ v, e = .returned v ∧ IL w.heap.size w' v (cf (sg sn X) Y) ∧ Below w.heap.size w w' := by
  have hC := hide' (appendSeq_is N w cF sn a n cp X b m cp2 Y hY0 hc hm hc2 hm2 hF hSa hSb hN hN2)
  go_enter Tryz.func25, Tryz.ntmps25
  go_wp2_with (go_at_call 43; refine hC.out.mono ?_; rintro e w1 ⟨v, s, rfl, hs, hr, hn, hb⟩)
  go_ret
  exact ⟨v, rfl, ⟨s, hs, hr, hn⟩, hb⟩

theorem numbers_is (s : Bool) (ao : Option Addr) (n cap : Nat) (t : Bool) (ao2 : Option Addr) (m cap2 : Nat) (w : World) :
    Calls Tryz.prog 26 #[.agg #[.bool s, .slice ao n cap, .bool t, .slice ao2 m cap2]] w fun e w' => e = .returned (.func (.func 44) #[] #[.pointer (some ⟨w.heap.size, 0, none⟩)]) ∧ w' = w.alloc (.cells #[.bool s, .slice ao n cap, .bool t, .slice ao2 m cap2] 41) := by
  go_enter Tryz.func26, Tryz.ntmps26
  go_wp2
  go_ret
  exact ⟨rfl, rfl⟩

set_option maxRecDepth 100000 in
set_option maxHeartbeats 1000000 in
theorem qExpand_is (N : Nat) (s : Bool) (ao : Option Addr) (n cap X : Nat) (ao2 : Option Addr) (m cap2 Y : Nat) (w : World) (hc : n ≤ cap) (hm : n ≤ 1099511627776) (hS : Seg w ao X n) (hc2 : m ≤ cap2) (hm2 : m ≤ 1099511627776) (hS2 : Seg w ao2 Y m) (hN : (cf (rn s X Y) (rd Y)).length ≤ N) (hN2 : N ≤ 8589934592) :
    Calls Tryz.prog 10 #[.agg #[.bool s, .slice ao n cap, .slice ao2 m cap2]] w fun e w' => ∃ v, e = .returned v ∧ IL w.heap.size w' v (cf (rn s X Y) (rd Y)) ∧ Below w.heap.size w w' := by
  have bA := below_alloc (w := w) (.cells #[.bool s, .slice ao n cap, .slice ao2 m cap2] 27)
  have hC := hide' (read_is s ao n cap X ao2 m cap2 Y 1099511627776 _ hc hm (hS.later bA) hc2 hm2 (hS2.later bA) (by omega) (by omega))
  go_enter Tryz.func10, Tryz.ntmps10
  go_wp2_with (go_at_call 14; refine hC.out.mono ?_; rintro e w1 ⟨s', p, n', c', X', q, m', c2', rfl, k1, k2, k3, k4, k5, k6, k7, k8⟩)
  refine (numbers_is s' p n' c' false q m' c2' w1).mono ?_
  rintro e w2 ⟨rfl, rfl⟩
  have b2 := below_alloc (w := w1) (.cells #[.bool s', .slice p n' c', .bool false, .slice q m' c2'] 41)
  have hD := hide' (collect_is N (w1.alloc (.cells #[.bool s', .slice p n' c', .bool false, .slice q m' c2'] 41)) w1.heap.size s' p n' c' X' q m' c2' (rd Y) (Nat.pos_iff_ne_zero.1 (rd_pos Y)) k1 k2 k3 k4 (World.alloc_heap_new w1 _) (k5.later b2) (k6.later b2) (by rw [k7]; exact hN) hN2)
  have bB := bA.trans (k8.mono bA.size)
  have bC := bB.trans (b2.mono bB.size)
  have hs1 := bC.size
  rw [k7] at hD
  go_wp2_with (go_at_call 25; refine hD.out.mono ?_; rintro e w3 ⟨v, rfl, hI, b3⟩)
  go_ret
  exact ⟨v, rfl, hI.base hs1, bC.trans (b3.mono hs1)⟩
end Go.Proofs.YtpifbbopcngdhaaGreatDoor
