/-
  units: Marks and Clauses.
-/
import Derived.Test.YtfodejhipnmgnaaUG0
namespace Go.Proofs.Ytfodejhipnmgnaa
open Go.RowKit
set_option linter.unusedVariables false
set_option linter.unusedSimpArgs false
theorem mkC_one : ∀ (l : List Mk), ∀ v ∈ mkC l, v.oneCell' = true
  | [], v, h => absurd h (by simp [mkC])
  | m :: r, v, h => by
    simp only [mkC, List.mem_cons] at h
    rcases h with rfl | rfl | rfl | h
    · rfl
    · rfl
    · rfl
    · exact mkC_one r v h
theorem info_c : (Try.prog.info? 41).bind (fun i => i.zero.map fun z => (z, i.size, i.bytes)) = some (.slice none 0 0, 1, 24) := by kernel_rfl
theorem ofF_self (l : List Int) : ofF l.length (fun j => l.getD j 0) = l := by
  apply List.ext_getElem?
  intro i
  by_cases h : i < l.length
  · rw [ofF_at h]; simp [List.getD, List.getElem?_eq_getElem h]
  · rw [List.getElem?_eq_none (by rw [ofF_length]; omega), List.getElem?_eq_none (by omega)]
theorem add0 (q j : Nat) : (⟨q, 0, none⟩ : Addr).add j = ⟨q, j, none⟩ := by unfold Addr.add; split <;> simp_all
/-- what Marks tells -/
def MkA (w : World) (u : US) (e : Ending) (w' : World) : Prop := ∃ g, e = .returned (.slice (some ⟨g, 0, none⟩) u.mks.length u.mks.length) ∧ w'.heap[g]? = some (.cells (mkC u.mks).toArray 61 (0, 0)) ∧ w.heap.size ≤ g ∧ Below w.heap.size w w'
/-- what Clauses tells -/
def CsA (w : World) (u : US) (e : Ending) (w' : World) : Prop := ∃ (a : Option Addr) (f : Nat → Cla), e = .returned (.slice a u.cl.length u.cl.length) ∧ ClasAt w' a u.cl.length f ∧ (∀ i, i < u.cl.length → (f i).n = (clU u i).lits.length ∧ (f i).g = fun j => (clU u i).lits.getD j 0) ∧ Below w.heap.size w w'
/-- the first k of what Clauses makes -/
structure CsI (w : World) (u : US) (g k : Nat) (G : Nat → Nat) (wr : World) : Prop where
  bel : Below w.heap.size w wr
  row : ∃ cur : Array Value, wr.heap[g]? = some (.cells cur 41 (0, 0)) ∧ cur.size = u.cl.length ∧ ∀ i, i < k → cur[i]? = some (.slice (some ⟨G i, 0, none⟩) (clU u i).lits.length (clU u i).lits.length)
  lits : ∀ i, i < k → wr.heap[G i]? = some (.cells (iv (clU u i).lits).toArray 3 (0, 0)) ∧ G i ≠ g
theorem CsI.later {w : World} {u : US} {g k : Nat} {G : Nat → Nat} {wr w' : World} (h : CsI w u g k G wr) (hb : Below wr.heap.size wr w') : CsI w u g k G w' := by
  obtain ⟨cur, h1, h2⟩ := h.row
  refine ⟨h.bel.trans (hb.mono h.bel.size), ⟨cur, (hb.block g (Array.getElem?_eq_some_iff.1 h1).1).trans h1, h2⟩, fun i hi => ?_⟩
  have h3 := h.lits i hi
  exact ⟨(hb.block _ (Array.getElem?_eq_some_iff.1 h3.1).1).trans h3.1, h3.2⟩
theorem CsI.step {w : World} {u : US} {g k q : Nat} {G : Nat → Nat} {wr : World} (h : CsI w u g k G wr) (hk : k < u.cl.length) (hg : w.heap.size ≤ g) (hq : wr.heap[q]? = some (.cells (iv (clU u k).lits).toArray 3 (0, 0))) (hne : q ≠ g) :
    CsI w u g (k + 1) (fun i => if i = k then q else G i) (wr.setCell ⟨g, k, none⟩ (.slice (some ⟨q, 0, none⟩) (clU u k).lits.length (clU u k).lits.length)) := by
  obtain ⟨cur, h1, h2, h3⟩ := h.row
  refine ⟨bset h.bel hg, ⟨cur.setIfInBounds k (.slice (some ⟨q, 0, none⟩) (clU u k).lits.length (clU u k).lits.length), ?_, by simpa using h2, fun i hi => ?_⟩, fun i hi => ?_⟩
  · simp [World.setCell, Array.getElem?_modify, h1]
  · by_cases e : i = k
    · subst e
      rw [if_pos rfl, Array.getElem?_setIfInBounds_self_of_lt (by omega)]
    · rw [if_neg e, Array.getElem?_setIfInBounds_ne (Ne.symm e)]
      exact h3 i (by omega)
  · by_cases e : i = k
    · subst e
      rw [if_pos rfl]
      exact ⟨(heap_setCell_other _ _ _ _ hne).trans hq, hne⟩
    · rw [if_neg e]
      have h4 := h.lits i (by omega)
      exact ⟨(heap_setCell_other _ _ _ _ h4.2).trans h4.1, h4.2⟩
theorem iv_cell {w : World} {q : Nat} {l : List Int} {t : TypeId} (h : w.heap[q]? = some (.cells (iv l).toArray t (0, 0))) {j : Nat} (hj : j < l.length) : w.cell? ⟨q, j, none⟩ = some (.int .i64 (l.getD j 0)) := by
  rw [cell_of_row w q j _ _ _ h]
  simp only [List.getElem?_toArray]
  exact iv_at (by simp [List.getD, List.getElem?_eq_getElem hj])
set_option maxHeartbeats 4000000 in
set_option maxRecDepth 100000 in
theorem marks_is (ow : Nat → Tg) (b : Nat) (V : SV) (u : US) (w : World) (h : UM w ow b V u) (hr : Rd u)  :
    Calls Try.prog 22 #[.pointer (some ⟨b, 0, none⟩)] w fun e w' => MkA w u e w' := by
  obtain ⟨n0, hn0⟩ : ∃ n, u.tr.length = n + 1 := ⟨u.tr.length - 1, by have := hr.n0; omega⟩
  obtain ⟨g0, hg0⟩ := h.rtr.got hr.n0
  have c0 := h.cells.2.2.1
  rw [SlV.val_some hg0, hn0] at c0
  have GN := hide' (isNoneM b g0 n0 V.tr.c w c0)
  clear c0 hg0 hn0
  obtain ⟨n, hn⟩ : ∃ n, u.mks.length = n := ⟨_, rfl⟩
  have hM := hr.nM
  unfold MkA
  rw [hn] at hM ⊢
  obtain ⟨Xa, hXa, hma⟩ : ∃ X : Array Value, X.size = (n) * 3 ∧ ∀ w : World, (Instr.makeSlice 35 (.int .i64 ((n : Int))) (.int .i64 ((n : Int)))).run Try.prog w = .ok (.slice (some ⟨w.heap.size, 0, none⟩) (n) (n)) (w.alloc (.cells X 61)) := by
    obtain ⟨i0, hi0, hz0, hz1, hz2⟩ := info_parts info_m
    refine ⟨madeCells (.agg #[.int .i64 0, .int .i64 0, .int .i64 0] : Value).cells ((n) * 3), size_madeCells _ _, fun w => ?_⟩
    have hr := run_make (P := Try.prog) w 35 61 i0 _ Try.underlying35 hi0 hz0 .i64 .i64 ((n : Int)) ((n : Int)) (by omega) (Int.le_refl _) (by rw [hz2]; omega) (by omega)
    have e : ((n : Int) : Int).toNat = n := by omega
    rw [hz1, e] at hr
    exact hr
  obtain ⟨ii, hii, hiz, his, hib⟩ := info_parts info_m
  have HH := hide' (And.intro h hn)
  clear h hn hr
  go_enter Try.func22, Try.ntmps22
  go_wp2_with fail
  refine GN.out.mono ?_
  rintro e w0 ⟨rfl, b0⟩
  clear GN
  have h := HH.out.1.later b0
  have c1 := h.cells.2.2.2.1
  change w0.cell? _ = some (.slice V.mks.at' u.mks.length V.mks.c) at c1
  rw [HH.out.2] at c1
  obtain ⟨w1, hw1⟩ : ∃ w1, w0.alloc (.cells Xa 61) = w1 := ⟨_, rfl⟩
  have hnew : w1.heap[w0.heap.size]? = some (.cells Xa 61 (0, 0)) := by rw [← hw1]; exact heap_alloc_new w0 _
  have bN : Below w0.heap.size w0 w1 := by rw [← hw1]; exact below_alloc _
  obtain ⟨g, hg⟩ : ∃ g, w0.heap.size = g := ⟨_, rfl⟩
  rw [hg] at hnew
  have hma2 := hma w0
  rw [hw1, hg] at hma2
  have hbs := b0.size
  obtain ⟨w2, hr, hc2, b2⟩ := run_copy_any (P := Try.prog) w1 35 35 3 61 ii 3 g n n V.mks.at' V.mks.c Xa 61 (mkC u.mks) Try.underlying35 hii his hnew hXa (by rw [mkC_length, HH.out.2]) (fun h0 => by
        obtain ⟨q, hq⟩ := h.rmk.got (by rw [HH.out.2]; exact h0)
        refine ⟨⟨q, 0, none⟩, by simp [SlV.at', hq], fun j v hv => ?_⟩
        have hj := (List.getElem?_eq_some_iff.1 hv).1
        rw [mkC_length] at hj
        rw [add0]
        exact below_cell bN ((h.rmk.cell hq hj).trans hv)) (mkC_one _)
  have HX := hide' (show w2.heap[g]? = some (.cells (mkC u.mks).toArray 61 (0, 0)) ∧ w.heap.size ≤ g ∧ Below w.heap.size w w2 from ⟨hc2, by omega, b0.trans ((bN.trans (by rw [hg]; exact b2)).mono b0.size)⟩)
  have c1b := below_cell bN c1
  clear hma bN b2 hc2 hnew h hw1 hg hiz hib his hii b0 hbs HH
  go_wp2_with (at_builtin; refine wpList_copy_eq _ rfl _ _ 35 35 rfl (.slice (some ⟨g, 0, none⟩) n n) (.slice V.mks.at' n V.mks.c) (by rfl) (by rfl) hr ?_)
  first | exact ⟨g, rfl, HX.out⟩ | (go_ret; exact ⟨g, rfl, HX.out⟩)
set_option maxHeartbeats 8000000 in
set_option maxRecDepth 100000 in
theorem clauses_is (ow : Nat → Tg) (b : Nat) (V : SV) (u : US) (w : World) (h : UM w ow b V u) (hr : Rd u) (hC : u.cl.length ≤ 1048576) (hL : ∀ n, n < u.cl.length → (clU u n).lits.length ≤ 17592186044416) (hI : ∀ n, n < u.cl.length → ∀ y ∈ (clU u n).lits, IsL u y) :
    Calls Try.prog 21 #[.pointer (some ⟨b, 0, none⟩)] w fun e w' => CsA w u e w' := by
  obtain ⟨n0, hn0⟩ : ∃ n, u.tr.length = n + 1 := ⟨u.tr.length - 1, by have := hr.n0; omega⟩
  obtain ⟨g0, hg0⟩ := h.rtr.got hr.n0
  have c0 := h.cells.2.2.1
  rw [SlV.val_some hg0, hn0] at c0
  have GN := hide' (isNoneM b g0 n0 V.tr.c w c0)
  clear c0 hg0 hn0
  have hT := hr.nT
  obtain ⟨TQ, hTQ⟩ : ∃ TQ, CsA w u = TQ := ⟨_, rfl⟩
  change Calls _ _ _ _ (CsA w u)
  rw [hTQ]
  replace hTQ := hide' hTQ
  obtain ⟨n, hn⟩ : ∃ n, u.cl.length = n := ⟨_, rfl⟩
  have hC1 : n ≤ 1048576 := by omega
  obtain ⟨Xa, hXa, hma⟩ : ∃ X : Array Value, X.size = (n) * 1 ∧ ∀ w : World, (Instr.makeSlice 34 (.int .i64 ((n : Int))) (.int .i64 ((n : Int)))).run Try.prog w = .ok (.slice (some ⟨w.heap.size, 0, none⟩) (n) (n)) (w.alloc (.cells X 41)) := by
    obtain ⟨i0, hi0, hz0, hz1, hz2⟩ := info_parts info_c
    refine ⟨madeCells (.slice none 0 0 : Value).cells ((n) * 1), size_madeCells _ _, fun w => ?_⟩
    have hr := run_make (P := Try.prog) w 34 41 i0 _ Try.underlying34 hi0 hz0 .i64 .i64 ((n : Int)) ((n : Int)) (by omega) (Int.le_refl _) (by rw [hz2]; omega) (by omega)
    have e : ((n : Int) : Int).toNat = n := by omega
    rw [hz1, e] at hr
    exact hr
  have HH := hide' (And.intro h (And.intro hn (And.intro hL hI)))
  clear h hn hr hL hI hC
  go_enter Try.func21, Try.ntmps21
  go_wp2_with fail
  refine GN.out.mono ?_
  rintro e w0 ⟨rfl, b0⟩
  clear GN
  have h := HH.out.1.later b0
  have c2 := h.cells.2.2.2.2.1
  change w0.cell? _ = some (.slice V.cl.at' u.cl.length V.cl.c) at c2
  rw [HH.out.2.1] at c2
  obtain ⟨w1, hw1⟩ : ∃ w1, w0.alloc (.cells Xa 41) = w1 := ⟨_, rfl⟩
  have hnew : w1.heap[w0.heap.size]? = some (.cells Xa 41 (0, 0)) := by rw [← hw1]; exact heap_alloc_new w0 _
  have bN : Below w0.heap.size w0 w1 := by rw [← hw1]; exact below_alloc _
  obtain ⟨g, hg⟩ : ∃ g, w0.heap.size = g := ⟨_, rfl⟩
  rw [hg] at hnew
  have hma2 := hma w0
  rw [hw1, hg] at hma2
  have hbs := b0.size
  have hgw : w.heap.size ≤ g := by omega
  have c2b := below_cell bN c2
  have I0 := hide' (show CsI w u g 0 (fun _ => 0) w1 from ⟨b0.trans (bN.mono b0.size), ⟨Xa, hnew, by rw [HH.out.2.1]; omega, fun i hi => absurd hi (by omega)⟩, fun i hi => absurd hi (by omega)⟩)
  have HW := hide' (b0.trans (bN.mono b0.size))
  have hgw' := hide' hgw
  clear hma hnew h hg b0 hbs bN hgw
  go_wp2_with fail
  go_loopw [19] (fun vi wr => ∃ (k : Nat) (G : Nat → Nat), k ≤ n ∧ vi = .int .i64 k ∧ CsI w u g k G wr) (fun vi _ => n - (intOf vi).toNat)
  case atStart => exact ⟨0, _, Nat.zero_le _, rfl, I0.out⟩
  case round =>
    clear I0
    obtain ⟨k, G, hk, rfl, hI⟩ := hrel
    by_cases hlt : k < n
    · have i1 : (k : Int) < (n : Int) := by omega
      have h := HH.out.1.later hI.bel
      have hku : k < u.cl.length := by rw [HH.out.2.1]; exact hlt
      obtain ⟨gC, hgC⟩ := h.rcl.got (by omega)
      have eC : V.cl.at' = some ⟨gC, 0, none⟩ := by simp [SlV.at', hgC]
      have kl := h.rcl.cell hgC (j := k * 6 + 0) (by omega)
      rw [show k * 6 + 0 = k * 6 from rfl, (clC_at _ _ k h.nlv hku).1] at kl
      have kb0 := h.rcl.cell hgC (j := k * 6 + 1) (by omega)
      rw [(clC_at _ _ k h.nlv hku).2.1] at kb0
      have kb1 := h.rcl.cell hgC (j := k * 6 + 2) (by omega)
      rw [(clC_at _ _ k h.nlv hku).2.2.1] at kb1
      have ka0 := h.rcl.cell hgC (j := k * 6 + 3) (by omega)
      rw [(clC_at _ _ k h.nlv hku).2.2.2.1] at ka0
      have ka1 := h.rcl.cell hgC (j := k * 6 + 4) (by omega)
      rw [(clC_at _ _ k h.nlv hku).2.2.2.2.1] at ka1
      have kn := h.rcl.cell hgC (j := k * 6 + 5) (by omega)
      rw [(clC_at _ _ k h.nlv hku).2.2.2.2.2] at kn
      change wr.cell? _ = some (.slice (V.lv.getD k default).at' (clU u k).lits.length (V.lv.getD k default).c) at kl
      have hrl := h.rlit hku
      change RowAt wr ow (.lit k) _ 1 _ (clU u k).lits.length (iv (clU u k).lits) at hrl
      obtain ⟨l, hl⟩ : ∃ l, (clU u k).lits = l := ⟨_, rfl⟩
      have hll := HH.out.2.2.1 k hku
      have hli := HH.out.2.2.2 k hku
      rw [hl] at kl hrl hll hli
      obtain ⟨sv, hsv⟩ : ∃ sv, V.lv.getD k default = sv := ⟨_, rfl⟩
      rw [hsv] at kl hrl
      have hLA : LitsAt wr sv.at' l.length (fun j => l.getD j 0) := by
        refine ⟨by omega, fun i hi => ?_, fun h0 => ?_⟩
        · have e : l.getD i 0 ∈ l := by simp [List.getD, List.getElem?_eq_getElem hi]
          have h1 := (hli _ e).2
          unfold InR at h1
          show -9223372036854775808 ≤ l.getD i 0 ∧ l.getD i 0 ≤ 9223372036854775807
          omega
        · obtain ⟨q, hq⟩ := hrl.got h0
          exact ⟨q, 0, by simp [SlV.at', hq], fun i hi => by rw [Nat.zero_add, hrl.cell hq (by omega)]; exact iv_at (by simp [List.getD, List.getElem?_eq_getElem hi])⟩
      generalize (u.cl.getD k default).b0 = z0 at kb0
      generalize (u.cl.getD k default).b1 = z1 at kb1
      generalize (u.cl.getD k default).a0 = z2 at ka0
      generalize (u.cl.getD k default).a1 = z3 at ka1
      generalize (u.cl.getD k default).nx = z4 at kn
      generalize sv.c = sc at kl
      obtain ⟨wA, hwA⟩ : ∃ wA, wr.alloc (.cells #[.slice none 0 0, .int .i64 0, .int .i64 0, .int .i64 0, .int .i64 0, .int .i64 0] 89) = wA := ⟨_, rfl⟩
      have bA : Below wr.heap.size wr wA := by rw [← hwA]; exact below_alloc _
      have rA : Row wA wr.heap.size := by rw [← hwA]; exact row_new _ _ _
      have fz := fun o => rA.frozen o
      have hA : wA.heap[wr.heap.size]? = some (.cells #[.slice none 0 0, .int .i64 0, .int .i64 0, .int .i64 0, .int .i64 0, .int .i64 0] 89 (0, 0)) := by rw [← hwA]; exact heap_alloc_new wr _
      have q0 : wA.cell? ⟨wr.heap.size, 0, none⟩ = some (.slice none 0 0) := by rw [cell_of_row wA _ _ _ _ _ hA]; rfl
      have q1 : wA.cell? ⟨wr.heap.size, 1, none⟩ = some (.int .i64 0) := by rw [cell_of_row wA _ _ _ _ _ hA]; rfl
      have q2 : wA.cell? ⟨wr.heap.size, 2, none⟩ = some (.int .i64 0) := by rw [cell_of_row wA _ _ _ _ _ hA]; rfl
      have q3 : wA.cell? ⟨wr.heap.size, 3, none⟩ = some (.int .i64 0) := by rw [cell_of_row wA _ _ _ _ _ hA]; rfl
      have q4 : wA.cell? ⟨wr.heap.size, 4, none⟩ = some (.int .i64 0) := by rw [cell_of_row wA _ _ _ _ _ hA]; rfl
      have q5 : wA.cell? ⟨wr.heap.size, 5, none⟩ = some (.int .i64 0) := by rw [cell_of_row wA _ _ _ _ _ hA]; rfl
      obtain ⟨d, hd⟩ : ∃ d, wr.heap.size = d := ⟨_, rfl⟩
      rw [hd] at fz q0 q1 q2 q3 q4 q5 rA
      have bB : Below wr.heap.size wr ((((((wA.setCell ⟨d, 0, none⟩ (.slice sv.at' l.length sc)).setCell ⟨d, 1, none⟩ (.int .i64 z0)).setCell ⟨d, 2, none⟩ (.int .i64 z1)).setCell ⟨d, 3, none⟩ (.int .i64 z2)).setCell ⟨d, 4, none⟩ (.int .i64 z3)).setCell ⟨d, 5, none⟩ (.int .i64 z4)) := (bset (bset (bset (bset (bset (bset bA (by omega)) (by omega)) (by omega)) (by omega)) (by omega)) (by omega))
      have hq0 : ((((((wA.setCell ⟨d, 0, none⟩ (.slice sv.at' l.length sc)).setCell ⟨d, 1, none⟩ (.int .i64 z0)).setCell ⟨d, 2, none⟩ (.int .i64 z1)).setCell ⟨d, 3, none⟩ (.int .i64 z2)).setCell ⟨d, 4, none⟩ (.int .i64 z3)).setCell ⟨d, 5, none⟩ (.int .i64 z4)).cell? ⟨d, 0, none⟩ = some (.slice sv.at' l.length sc) := by rw [cell_set_other (by decide), cell_set_other (by decide), cell_set_other (by decide), cell_set_other (by decide), cell_set_other (by decide)]; exact cell_set_same q0
      obtain ⟨wB, hwB⟩ : ∃ wB, ((((((wA.setCell ⟨d, 0, none⟩ (.slice sv.at' l.length sc)).setCell ⟨d, 1, none⟩ (.int .i64 z0)).setCell ⟨d, 2, none⟩ (.int .i64 z1)).setCell ⟨d, 3, none⟩ (.int .i64 z2)).setCell ⟨d, 4, none⟩ (.int .i64 z3)).setCell ⟨d, 5, none⟩ (.int .i64 z4)) = wB := ⟨_, rfl⟩
      rw [hwB] at bB hq0
      have hIB := hI.later bB
      have hLB := hLA.later bB
      have GC := hide' (copied_is sv.at' l.length sc (fun j => l.getD j 0) (by omega) wB hLB)
      have HD := hide' (And.intro hIB (And.intro hl (And.intro hku hd)))
      have hsize : wr.heap.size ≤ wB.heap.size := bB.size
      clear hI h hrl hll hli hLA hLB hIB hl hku hsv bA bB rA hA hgC
      try rw [eC]
      go_wp2_with (first | (rw [hwA, hd]) | rw [hwA] | rw [hd] | rw [hwB])
      refine GC.out.mono ?_
      rintro e w2 ⟨q, rfl, hq, hqs, b2⟩
      clear GC
      rw [ofF_self] at hq
      have hI2 := HD.out.1.later b2
      obtain ⟨cur, hr1, hr2, hr3⟩ := hI2.row
      have hgl : g < wB.heap.size := by obtain ⟨cur, h1, _⟩ := HD.out.1.row; exact (Array.getElem?_eq_some_iff.1 h1).1
      have hkc : k < cur.size := by rw [hr2]; exact HD.out.2.2.1
      have ck : w2.cell? ⟨g, k, none⟩ = some cur[k] := by rw [cell_of_row w2 g k _ _ _ hr1]; exact Array.getElem?_eq_getElem hkc
      have fg := fun o => frozen_of_row w2 g o _ _ hr1
      have HS := hide' (hI2.step (q := q) HD.out.2.2.1 hgw'.out (by rw [HD.out.2.1]; exact hq) (by omega))
      rw [HD.out.2.1] at HS
      generalize cur[k] = v9 at ck
      clear hI2 hr1 hr2 hr3 hq hqs b2 hgl hkc q0 q1 q2 q3 q4 q5 fz hq0 hsize
      go_wp2_with fail
      go_roundw
      case rel => exact ⟨k + 1, _, by omega, by go_num, HS.out⟩
      case measure => simp only [intOf]; omega
    · obtain rfl : k = n := by omega
      have i1 : ¬ (k : Int) < (k : Int) := by omega
      obtain ⟨cur, hr1, hr2, hr3⟩ := hI.row
      have HX := hide' (show TQ (.returned (.slice (some ⟨g, 0, none⟩) k k)) wr from by
        rw [← hTQ.out]
        refine ⟨some ⟨g, 0, none⟩, fun i => ⟨some ⟨G i, 0, none⟩, (clU u i).lits.length, (clU u i).lits.length, fun j => (clU u i).lits.getD j 0⟩, by rw [HH.out.2.1], ⟨by rw [HH.out.2.1]; omega, fun i hi => ?_, fun _ => ⟨g, 0, rfl, fun i hi => ?_⟩⟩, fun i _ => ⟨rfl, rfl⟩, hI.bel⟩
        · have hll := HH.out.2.2.1 i hi
          refine ⟨by show (clU u i).lits.length ≤ _; omega, fun j hj => ?_, fun _ => ⟨G i, 0, rfl, fun j hj => ?_⟩⟩
          · have hj2 : j < (clU u i).lits.length := hj
            have e : (clU u i).lits.getD j 0 ∈ (clU u i).lits := by simp [List.getD, List.getElem?_eq_getElem hj2]
            have h1 := (HH.out.2.2.2 i hi _ e).2
            unfold InR at h1
            show -9223372036854775808 ≤ (clU u i).lits.getD j 0 ∧ (clU u i).lits.getD j 0 ≤ 9223372036854775807
            omega
          · rw [Nat.zero_add]; exact iv_cell (hI.lits i (by rw [← HH.out.2.1]; exact hi)).1 hj
        · rw [Nat.zero_add, cell_of_row wr g i _ _ _ hr1]; exact hr3 i (by rw [← HH.out.2.1]; exact hi))
      clear hI hr1 hr2 hr3 hlt
      go_wp2
      first | exact HX.out | (go_ret; exact HX.out)
end Go.Proofs.Ytfodejhipnmgnaa
