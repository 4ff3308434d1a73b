/-
  UnitsFollow.
-/
import Derived.Test.YtfodejhipnmgnaaUG5
namespace Go.Proofs.Ytfodejhipnmgnaa.unitsFollow
open Go.ChangeShapes Go.WideShapes Go.ChangeAt Go.RowKit Go.Proofs.Ytfodejhipnmgnaa
set_option linter.unusedVariables false
set_option linter.unusedSimpArgs false
set_option maxHeartbeats 16000000 in
set_option maxRecDepth 100000 in
theorem walkM (o : VaV) (ca : Option Addr) (cn cc : Nat) (f : Nat → Cla) (w : World) (ho : o.ok w) (hC : ClasAt w ca cn f) (hcl : ∀ i, i < cn → (f i).n ≤ 17592186044416) :
    Calls Try.prog 7 #[.agg #[.int .i64 o.n, .slice o.da o.dn o.dc, .slice o.ta o.tn o.tc], .slice ca cn cc] w fun e w' => e = .returned (.bool true) ∧ Below w.heap.size w w' := by
  have HA := hide' (And.intro ho (And.intro hC (And.intro hC.1 hcl)))
  have hlo := ho.lo
  have hhi := ho.hi
  clear ho hC hcl
  obtain ⟨x, hx⟩ : ∃ x, o.n = x := ⟨_, rfl⟩
  rw [hx] at hlo hhi
  try rw [hx]
  clear hx
  by_cases h0 : x < 0
  · skip
    obtain ⟨w0, hw0⟩ : ∃ w0, w.alloc (.cells #[.int .i64 x, .slice o.da o.dn o.dc, .slice o.ta o.tn o.tc] 58) = w0 := ⟨_, rfl⟩
    have b0 : Below w.heap.size w w0 := by rw [← hw0]; exact below_alloc _
    have hA0 : w0.heap[w.heap.size]? = some (.cells #[.int .i64 x, .slice o.da o.dn o.dc, .slice o.ta o.tn o.tc] 58 (0, 0)) := by rw [← hw0]; exact heap_alloc_new w _
    have fz := fun o => frozen_of_row w0 w.heap.size o _ _ hA0
    have x0 : w0.cell? ⟨w.heap.size, 0, none⟩ = some (.int .i64 x) := by rw [cell_of_row w0 _ _ _ _ _ hA0]; rfl
    have x1 : w0.cell? ⟨w.heap.size, 1, none⟩ = some (.slice o.da o.dn o.dc) := by rw [cell_of_row w0 _ _ _ _ _ hA0]; rfl
    have x2 : w0.cell? ⟨w.heap.size, 2, none⟩ = some (.slice o.ta o.tn o.tc) := by rw [cell_of_row w0 _ _ _ _ _ hA0]; rfl
    obtain ⟨q, hq⟩ : ∃ q, w.heap.size = q := ⟨_, rfl⟩
    rw [hq] at x0 x1 x2 fz
    have hqw := hide' hq
    clear hA0
    go_enter Try.func7, Try.ntmps7
    go_wp2_with (first | (rw [hw0, hq]) | rw [hw0] | rw [hq])
    have B1 : Below w.heap.size w (w0.setCell ⟨q, 0, none⟩ (.int .i64 3)) := bset b0 (by have := hqw.out; omega)
    have y0 : (w0.setCell ⟨q, 0, none⟩ (.int .i64 3)).cell? ⟨q, 0, none⟩ = some (.int .i64 3) := cell_set_same x0
    have y1 := (cell_set_other (w := w0) (b := q) (o := 0) (o' := 1) (v := .int .i64 3) (by decide)).trans x1
    have y2 := (cell_set_other (w := w0) (b := q) (o := 0) (o' := 2) (v := .int .i64 3) (by decide)).trans x2
    obtain ⟨w1, hw1⟩ : ∃ w1, w0.setCell ⟨q, 0, none⟩ (.int .i64 3) = w1 := ⟨_, rfl⟩
    rw [hw1] at B1 y0 y1 y2 ⊢
    clear x0 x1 x2 fz hw1 hw0 b0 hq
    have x0 := y0
    have x1 := y1
    have x2 := y2
    clear y0 y1 y2
    have HB1 := hide' B1
    clear B1
    have GM := hide' (made_is 3 (by omega) ca cn cc f o.da o.dn o.dc o.d HA.out.2.2.2 w1 (HA.out.2.1.later HB1.out) (HA.out.1.da.later HB1.out))
    have HIU := hide' (And.intro (made_iv (n := 3) (cn := cn) (f := f) (dn := o.dn) (d := o.d) (by omega)) (And.intro (made_dec (n := 3) (cn := cn) (f := f) (dn := o.dn) (d := o.d) (by omega)) (made_lits (n := 3) (cn := cn) (f := f) (dn := o.dn) (d := o.d) HA.out.2.2.2)))
    obtain ⟨U, hU⟩ : ∃ U, madeU 3 cn f o.dn o.d = U := ⟨_, rfl⟩
    rw [hU] at GM HIU
    clear hU
    go_wp2_with fail
    refine GM.out.mono ?_
    rintro e w3 ⟨b, ow, V, rfl, hU, hB3, hoth⟩
    clear GM
    have HX2 := hide' x2
    clear x0 x1 x2
    have GP := hide' (propagate_is ow b V U HIU.out.1 w3 hU)
    have HO := hide' (And.intro hB3 hoth)
    clear hU hB3 hoth
    go_wp2_with fail
    refine GP.out.mono ?_
    rintro e w4 ⟨r, v, ow4, V4, rfl, h4, S4, I4, E4, hr⟩
    clear GP
    have B4 := HO.out.1.trans (S4.below HO.out.2 HO.out.1.size)
    clear S4 HO
    have GK := hide' (marks_is ow4 b V4 v w4 h4 I4.rd)
    have GC := hide' (fun w' (hb : Below w4.heap.size w4 w') => clauses_is ow4 b V4 v w' (h4.later hb) I4.rd I4.wo.cl (fun m _ => by rw [E4.lits]; exact HIU.out.2.2 m) I4.li)
    have HR := hide' (And.intro I4 (And.intro E4 hr))
    have hr1 : r ≥ -1 := by rcases hr with ⟨e, _⟩ | ⟨n, e, _⟩ <;> omega
    clear h4 I4 E4 hr
    go_wp2_with fail
    refine GK.out.mono ?_
    rintro e w5 ⟨gm, rfl, hgm, hgs, b5⟩
    clear GK
    go_wp2_with fail
    refine (GC.out _ b5).mono ?_
    rintro e w6 ⟨ao, fo, rfl, hCo, hfo, b6⟩
    clear GC
    have hgm6 := (b6.block gm (Array.getElem?_eq_some_iff.1 hgm).1).trans hgm
    have B6 := B4.trans ((b5.trans (b6.mono b5.size)).mono B4.size)
    have x2 := below_cell B6 HX2.out
    have BW := HB1.out.trans (B6.mono HB1.out.size)
    have hT6 := HA.out.1.ta.later BW
    obtain ⟨nc, hnc⟩ : ∃ k, v.cl.length = k := ⟨_, rfl⟩
    obtain ⟨nm, hnm⟩ : ∃ k, v.mks.length = k := ⟨_, rfl⟩
    have hncC : nc ≤ 1048576 := by rw [← hnc]; exact HR.out.1.wo.cl
    have hnmM : nm ≤ 262144 := by rw [← hnm]; exact HR.out.1.rd.nM
    rw [hnc] at hCo hfo
    try rw [hnc]
    try rw [hnm]
    have HG := hide' (show ∀ j, j < nm → w6.cell? ⟨gm, j * 3, none⟩ = some (.int .i64 (mkU v j).l) ∧ w6.cell? ⟨gm, j * 3 + 2, none⟩ = some (.int .i64 (mkU v j).r) from fun j hj => mk_cell hgm6 (by rw [hnm]; exact hj))
    have HM := hide' (show ∀ j, j < nm → -9223372036854775808 < (mkU v j).l ∧ (mkU v j).l ≤ 9223372036854775807 from fun j hj => by have h1 := (HR.out.1.tr.lit j (by rw [hnm]; exact hj)).1.2; have h2 := HR.out.1.rd.nT; unfold InR at h1; omega)
    have HL := hide' (show ∀ i, i < nc → ∀ j, j < (fo i).n → isLit ((fo i).g j) = true from fun i hi j hj => by
        have h1 := hfo i hi
        rw [h1.1] at hj
        rw [h1.2]
        exact isLit_of HR.out.1.rd (HR.out.1.li i (by rw [hnc]; exact hi) _ (by simp [List.getD, List.getElem?_eq_getElem hj])))
    have HN := hide' (And.intro hnc (And.intro hnm hfo))
    have HCo := hide' hCo
    have HT6 := hide' hT6
    have HBW := hide' BW
    clear hnc hnm hfo hCo hT6 BW hgm hgm6 hgs b5 b6 B4 B6
    go_wp2_with fail
    go_loopw [9] (fun vi wr => ∃ k : Nat, k ≤ nc ∧ vi = .int .i64 k ∧ Below w6.heap.size w6 wr ∧ ∀ i, i < k → allN (fun y => !litT o.tn o.t y) (fo i).g (fo i).n = false) (fun vi _ => nc - (intOf vi).toNat)
    case atStart => exact ⟨0, Nat.zero_le _, rfl, Below.refl _ _, fun i hi => absurd hi (by omega)⟩
    case round =>
      obtain ⟨k, hk, rfl, hB, hal⟩ := hrel
      have HAL := hide' hal
      clear hal
      by_cases hlt : k < nc
      · obtain ⟨bb, off, rfl, hcell⟩ := HCo.out.2.2 (by omega)
        have ck := below_cell hB (hcell k hlt)
        clear hcell
        have i1 : (k : Int) < (nc : Int) := by omega
        have i0 : (0 : Int) ≤ (k : Int) := by omega
        have x2r := below_cell hB x2
        have GA := hide' (fun w' (hb : Below w6.heap.size w6 w') => Made_is (fo k).a (fo k).n (fo k).c (fo k).g o.ta o.tn o.tc o.t w' ((HCo.out.2.1 k hlt).later hb) (HT6.out.later hb) (HL.out k hlt))
        cases hv : allN (fun y => !litT o.tn o.t y) (fo k).g (fo k).n with
        | true =>
          rw [hv] at GA
          clear hv
          replace hB := hide' hB
          go_wp2_with fail
          go_quiet ((go_at_call 25; exact Calls.quiet_of_same (GA.out _ (below_drewN hB.out))))
          go_wp2
          have hfin := HBW.out.trans ((below_drewN (n := nq) hB.out).mono HBW.out.size)
          first | exact ⟨rfl, hfin⟩ | (go_ret; exact ⟨(by first | rfl | (simp; omega) | (simp [hr1])), hfin⟩)
        | false =>
          rw [hv] at GA
          have HAL2 := hide' (show ∀ i, i < k + 1 → allN (fun y => !litT o.tn o.t y) (fo i).g (fo i).n = false from fun i hi => by rcases Nat.lt_or_ge i k with e | e; exact HAL.out i e; (obtain rfl : i = k := by omega); exact hv)
          clear hv
          replace hB := hide' hB
          go_wp2_with fail
          go_quiet ((go_at_call 25; exact Calls.quiet_of_same (GA.out _ (below_drewN hB.out))))
          go_wp2_with fail
          go_roundw
          case rel => exact ⟨k + 1, by omega, by go_num, below_drewN hB.out, HAL2.out⟩
          case measure => simp only [intOf]; omega
      · obtain rfl : k = nc := by omega
        have i1 : ¬ (k : Int) < (k : Int) := by omega
        have HF0 := hide' (show ∀ i, i < v.cl.length → ∃ y ∈ (clU v i).lits, litT o.tn o.t y = true from fun i hi => by
            have hi2 : i < k := by rw [← HN.out.1]; exact hi
            have h1 := HAL.out i hi2
            have h2 := HN.out.2.2 i hi2
            rw [h2.1, h2.2] at h1
            refine Classical.byContradiction fun hno => ?_
            have h3 : allN (fun y => !litT o.tn o.t y) (fun j => (clU v i).lits.getD j 0) (clU v i).lits.length = true := allN_true.2 fun j hj => by
              cases e : litT o.tn o.t ((clU v i).lits.getD j 0) with
              | false => rfl
              | true => exact absurd ⟨_, by simp [List.getD, List.getElem?_eq_getElem hj], e⟩ hno
            rw [h1] at h3
            cases h3)
        have HB2 := hide' hB
        clear hB
        go_wp2_with fail
        go_loopw [11] (fun vi ws => ∃ j : Nat, j ≤ nm ∧ vi = .int .i64 j ∧ Below w6.heap.size w6 ws ∧ ∀ i, i < j → (mkU v i).r = -1 → litT o.tn o.t (mkU v i).l = true) (fun vi _ => nm - (intOf vi).toNat)
        case atStart => exact ⟨0, Nat.zero_le _, rfl, HB2.out, fun i hi => absurd hi (by omega)⟩
        case round =>
          clear HB2
          obtain ⟨j, hj, rfl, hB, hal⟩ := hrel
          have HAM := hide' hal
          clear hal
          by_cases hlt2 : j < nm
          · have i2 : (j : Int) < (nm : Int) := by omega
            have i0 : (0 : Int) ≤ (j : Int) := by omega
            have cl := below_cell hB (HG.out j hlt2).1
            have cr := below_cell hB (HG.out j hlt2).2
            have x2r := below_cell hB x2
            have GT := hide' (fun w' (hb : Below w6.heap.size w6 w') => True_is (mkU v j).l o.ta o.tn o.tc o.t (HM.out j hlt2).1 (HM.out j hlt2).2 w' (HT6.out.later hb))
            have HN2 := hide' (show ((mkU v j).r = -1 → litT o.tn o.t (mkU v j).l = true) → ∀ i, i < j + 1 → (mkU v i).r = -1 → litT o.tn o.t (mkU v i).l = true from fun h0 i hi he => by rcases Nat.lt_or_ge i j with e | e; exact HAM.out i e he; (obtain rfl : i = j := by omega); exact h0 he)
            obtain ⟨y, hy⟩ : ∃ y, (mkU v j).l = y := ⟨_, rfl⟩
            obtain ⟨re, hre⟩ : ∃ y, (mkU v j).r = y := ⟨_, rfl⟩
            rw [hy] at cl GT HN2
            rw [hre] at cr HN2
            clear hy hre HAM
            replace hB := hide' hB
            by_cases hr9 : re = -1
            · subst hr9
              cases hv : litT o.tn o.t y with
              | true =>
                rw [hv] at GT
                have HN3 := hide' (HN2.out fun _ => hv)
                clear hv HN2
                go_wp2_with fail
                go_quiet ((go_at_call 26; exact Calls.quiet_of_same (GT.out _ (below_drewN hB.out))))
                go_wp2_with fail
                go_roundw
                case rel => exact ⟨j + 1, by omega, by go_num, below_drewN hB.out, HN3.out⟩
                case measure => simp only [intOf]; omega
              | false =>
                rw [hv] at GT
                clear hv HN2
                go_wp2_with fail
                go_quiet ((go_at_call 26; exact Calls.quiet_of_same (GT.out _ (below_drewN hB.out))))
                go_wp2
                have hfin := HBW.out.trans ((below_drewN (n := nq) hB.out).mono HBW.out.size)
                first | exact ⟨rfl, hfin⟩ | (go_ret; exact ⟨rfl, hfin⟩)
            · have hrb : (re == -1) = false := by simp [hr9]
              have HN3 := hide' (HN2.out fun e => absurd e hr9)
              clear HN2 hr9
              go_wp2_with fail
              go_quiet ((go_at_call 26; exact Calls.quiet_of_same (GT.out _ (below_drewN hB.out))))
              go_wp2_with fail
              go_roundw
              case rel => exact ⟨j + 1, by omega, by go_num, below_drewN hB.out, HN3.out⟩
              case measure => simp only [intOf]; omega
          · obtain rfl : j = nm := by omega
            have i2 : ¬ (j : Int) < (j : Int) := by omega
            have HAllM := hide' (show ∀ i, i < j → litT o.tn o.t (mkU v i).l = true from fun i hi => follow_all HR.out.1 HR.out.2.1 HF0.out (fun i hi he => HAM.out i (by rw [← HN.out.2.1]; exact hi) he) HIU.out.2.1 i (by rw [HN.out.2.1]; exact hi))
            have hre : r = -1 := by rcases HR.out.2.2 with ⟨e, _⟩ | ⟨n9, _, hbk⟩; exact e; exact absurd hbk (follow_no HR.out.1 HF0.out (fun i hi => HAllM.out i (by rw [← HN.out.2.1]; exact hi)) n9)
            have HB3 := hide' hB
            clear hB HAM
            go_wp2_with fail
            go_loopw [12] (fun vi ws => ∃ i : Nat, i ≤ j ∧ vi = .int .i64 i ∧ Below w6.heap.size w6 ws) (fun vi _ => j - (intOf vi).toNat)
            case atStart => exact ⟨0, Nat.zero_le _, rfl, HB3.out⟩
            case round =>
              clear HB3
              obtain ⟨i, hi, rfl, hB⟩ := hrel
              by_cases hlt3 : i < j
              · have i3 : (i : Int) < (j : Int) := by omega
                have i0 : (0 : Int) ≤ (i : Int) := by omega
                have cl := below_cell hB (HG.out i hlt3).1
                have x2r := below_cell hB x2
                have GT := hide' (fun w' (hb : Below w6.heap.size w6 w') => True_is (mkU v i).l o.ta o.tn o.tc o.t (HM.out i hlt3).1 (HM.out i hlt3).2 w' (HT6.out.later hb))
                rw [HAllM.out i hlt3] at GT
                generalize (mkU v i).l = y at cl GT
                replace hB := hide' hB
                go_wp2_with fail
                go_quiet ((go_at_call 26; exact Calls.quiet_of_same (GT.out _ (below_drewN hB.out))))
                go_wp2_with fail
                go_roundw
                case rel => exact ⟨i + 1, by omega, by go_num, below_drewN hB.out⟩
                case measure => simp only [intOf]; omega
              · obtain rfl : i = j := by omega
                have i3 : ¬ (i : Int) < (i : Int) := by omega
                have hfin := HBW.out.trans (hB.mono HBW.out.size)
                replace hfin := hide' hfin
                clear hB
                have hrb : (r == -1) = true := by rw [hre]; rfl
                go_wp2
                first | exact ⟨rfl, hfin.out⟩ | (go_ret; exact ⟨(by first | rfl | simp [hrb] | simp [hre]), hfin.out⟩)
  · by_cases h1 : x > 262144
    · skip
      obtain ⟨w0, hw0⟩ : ∃ w0, w.alloc (.cells #[.int .i64 x, .slice o.da o.dn o.dc, .slice o.ta o.tn o.tc] 58) = w0 := ⟨_, rfl⟩
      have b0 : Below w.heap.size w w0 := by rw [← hw0]; exact below_alloc _
      have hA0 : w0.heap[w.heap.size]? = some (.cells #[.int .i64 x, .slice o.da o.dn o.dc, .slice o.ta o.tn o.tc] 58 (0, 0)) := by rw [← hw0]; exact heap_alloc_new w _
      have fz := fun o => frozen_of_row w0 w.heap.size o _ _ hA0
      have x0 : w0.cell? ⟨w.heap.size, 0, none⟩ = some (.int .i64 x) := by rw [cell_of_row w0 _ _ _ _ _ hA0]; rfl
      have x1 : w0.cell? ⟨w.heap.size, 1, none⟩ = some (.slice o.da o.dn o.dc) := by rw [cell_of_row w0 _ _ _ _ _ hA0]; rfl
      have x2 : w0.cell? ⟨w.heap.size, 2, none⟩ = some (.slice o.ta o.tn o.tc) := by rw [cell_of_row w0 _ _ _ _ _ hA0]; rfl
      obtain ⟨q, hq⟩ : ∃ q, w.heap.size = q := ⟨_, rfl⟩
      rw [hq] at x0 x1 x2 fz
      have hqw := hide' hq
      clear hA0
      go_enter Try.func7, Try.ntmps7
      go_wp2_with (first | (rw [hw0, hq]) | rw [hw0] | rw [hq])
      have B1 : Below w.heap.size w (w0.setCell ⟨q, 0, none⟩ (.int .i64 3)) := bset b0 (by have := hqw.out; omega)
      have y0 : (w0.setCell ⟨q, 0, none⟩ (.int .i64 3)).cell? ⟨q, 0, none⟩ = some (.int .i64 3) := cell_set_same x0
      have y1 := (cell_set_other (w := w0) (b := q) (o := 0) (o' := 1) (v := .int .i64 3) (by decide)).trans x1
      have y2 := (cell_set_other (w := w0) (b := q) (o := 0) (o' := 2) (v := .int .i64 3) (by decide)).trans x2
      obtain ⟨w1, hw1⟩ : ∃ w1, w0.setCell ⟨q, 0, none⟩ (.int .i64 3) = w1 := ⟨_, rfl⟩
      rw [hw1] at B1 y0 y1 y2 ⊢
      clear x0 x1 x2 fz hw1 hw0 b0 hq
      have x0 := y0
      have x1 := y1
      have x2 := y2
      clear y0 y1 y2
      have HB1 := hide' B1
      clear B1
      have GM := hide' (made_is 3 (by omega) ca cn cc f o.da o.dn o.dc o.d HA.out.2.2.2 w1 (HA.out.2.1.later HB1.out) (HA.out.1.da.later HB1.out))
      have HIU := hide' (And.intro (made_iv (n := 3) (cn := cn) (f := f) (dn := o.dn) (d := o.d) (by omega)) (And.intro (made_dec (n := 3) (cn := cn) (f := f) (dn := o.dn) (d := o.d) (by omega)) (made_lits (n := 3) (cn := cn) (f := f) (dn := o.dn) (d := o.d) HA.out.2.2.2)))
      obtain ⟨U, hU⟩ : ∃ U, madeU 3 cn f o.dn o.d = U := ⟨_, rfl⟩
      rw [hU] at GM HIU
      clear hU
      go_wp2_with fail
      refine GM.out.mono ?_
      rintro e w3 ⟨b, ow, V, rfl, hU, hB3, hoth⟩
      clear GM
      have HX2 := hide' x2
      clear x0 x1 x2
      have GP := hide' (propagate_is ow b V U HIU.out.1 w3 hU)
      have HO := hide' (And.intro hB3 hoth)
      clear hU hB3 hoth
      go_wp2_with fail
      refine GP.out.mono ?_
      rintro e w4 ⟨r, v, ow4, V4, rfl, h4, S4, I4, E4, hr⟩
      clear GP
      have B4 := HO.out.1.trans (S4.below HO.out.2 HO.out.1.size)
      clear S4 HO
      have GK := hide' (marks_is ow4 b V4 v w4 h4 I4.rd)
      have GC := hide' (fun w' (hb : Below w4.heap.size w4 w') => clauses_is ow4 b V4 v w' (h4.later hb) I4.rd I4.wo.cl (fun m _ => by rw [E4.lits]; exact HIU.out.2.2 m) I4.li)
      have HR := hide' (And.intro I4 (And.intro E4 hr))
      have hr1 : r ≥ -1 := by rcases hr with ⟨e, _⟩ | ⟨n, e, _⟩ <;> omega
      clear h4 I4 E4 hr
      go_wp2_with fail
      refine GK.out.mono ?_
      rintro e w5 ⟨gm, rfl, hgm, hgs, b5⟩
      clear GK
      go_wp2_with fail
      refine (GC.out _ b5).mono ?_
      rintro e w6 ⟨ao, fo, rfl, hCo, hfo, b6⟩
      clear GC
      have hgm6 := (b6.block gm (Array.getElem?_eq_some_iff.1 hgm).1).trans hgm
      have B6 := B4.trans ((b5.trans (b6.mono b5.size)).mono B4.size)
      have x2 := below_cell B6 HX2.out
      have BW := HB1.out.trans (B6.mono HB1.out.size)
      have hT6 := HA.out.1.ta.later BW
      obtain ⟨nc, hnc⟩ : ∃ k, v.cl.length = k := ⟨_, rfl⟩
      obtain ⟨nm, hnm⟩ : ∃ k, v.mks.length = k := ⟨_, rfl⟩
      have hncC : nc ≤ 1048576 := by rw [← hnc]; exact HR.out.1.wo.cl
      have hnmM : nm ≤ 262144 := by rw [← hnm]; exact HR.out.1.rd.nM
      rw [hnc] at hCo hfo
      try rw [hnc]
      try rw [hnm]
      have HG := hide' (show ∀ j, j < nm → w6.cell? ⟨gm, j * 3, none⟩ = some (.int .i64 (mkU v j).l) ∧ w6.cell? ⟨gm, j * 3 + 2, none⟩ = some (.int .i64 (mkU v j).r) from fun j hj => mk_cell hgm6 (by rw [hnm]; exact hj))
      have HM := hide' (show ∀ j, j < nm → -9223372036854775808 < (mkU v j).l ∧ (mkU v j).l ≤ 9223372036854775807 from fun j hj => by have h1 := (HR.out.1.tr.lit j (by rw [hnm]; exact hj)).1.2; have h2 := HR.out.1.rd.nT; unfold InR at h1; omega)
      have HL := hide' (show ∀ i, i < nc → ∀ j, j < (fo i).n → isLit ((fo i).g j) = true from fun i hi j hj => by
          have h1 := hfo i hi
          rw [h1.1] at hj
          rw [h1.2]
          exact isLit_of HR.out.1.rd (HR.out.1.li i (by rw [hnc]; exact hi) _ (by simp [List.getD, List.getElem?_eq_getElem hj])))
      have HN := hide' (And.intro hnc (And.intro hnm hfo))
      have HCo := hide' hCo
      have HT6 := hide' hT6
      have HBW := hide' BW
      clear hnc hnm hfo hCo hT6 BW hgm hgm6 hgs b5 b6 B4 B6
      go_wp2_with fail
      go_loopw [9] (fun vi wr => ∃ k : Nat, k ≤ nc ∧ vi = .int .i64 k ∧ Below w6.heap.size w6 wr ∧ ∀ i, i < k → allN (fun y => !litT o.tn o.t y) (fo i).g (fo i).n = false) (fun vi _ => nc - (intOf vi).toNat)
      case atStart => exact ⟨0, Nat.zero_le _, rfl, Below.refl _ _, fun i hi => absurd hi (by omega)⟩
      case round =>
        obtain ⟨k, hk, rfl, hB, hal⟩ := hrel
        have HAL := hide' hal
        clear hal
        by_cases hlt : k < nc
        · obtain ⟨bb, off, rfl, hcell⟩ := HCo.out.2.2 (by omega)
          have ck := below_cell hB (hcell k hlt)
          clear hcell
          have i1 : (k : Int) < (nc : Int) := by omega
          have i0 : (0 : Int) ≤ (k : Int) := by omega
          have x2r := below_cell hB x2
          have GA := hide' (fun w' (hb : Below w6.heap.size w6 w') => Made_is (fo k).a (fo k).n (fo k).c (fo k).g o.ta o.tn o.tc o.t w' ((HCo.out.2.1 k hlt).later hb) (HT6.out.later hb) (HL.out k hlt))
          cases hv : allN (fun y => !litT o.tn o.t y) (fo k).g (fo k).n with
          | true =>
            rw [hv] at GA
            clear hv
            replace hB := hide' hB
            go_wp2_with fail
            go_quiet ((go_at_call 25; exact Calls.quiet_of_same (GA.out _ (below_drewN hB.out))))
            go_wp2
            have hfin := HBW.out.trans ((below_drewN (n := nq) hB.out).mono HBW.out.size)
            first | exact ⟨rfl, hfin⟩ | (go_ret; exact ⟨(by first | rfl | (simp; omega) | (simp [hr1])), hfin⟩)
          | false =>
            rw [hv] at GA
            have HAL2 := hide' (show ∀ i, i < k + 1 → allN (fun y => !litT o.tn o.t y) (fo i).g (fo i).n = false from fun i hi => by rcases Nat.lt_or_ge i k with e | e; exact HAL.out i e; (obtain rfl : i = k := by omega); exact hv)
            clear hv
            replace hB := hide' hB
            go_wp2_with fail
            go_quiet ((go_at_call 25; exact Calls.quiet_of_same (GA.out _ (below_drewN hB.out))))
            go_wp2_with fail
            go_roundw
            case rel => exact ⟨k + 1, by omega, by go_num, below_drewN hB.out, HAL2.out⟩
            case measure => simp only [intOf]; omega
        · obtain rfl : k = nc := by omega
          have i1 : ¬ (k : Int) < (k : Int) := by omega
          have HF0 := hide' (show ∀ i, i < v.cl.length → ∃ y ∈ (clU v i).lits, litT o.tn o.t y = true from fun i hi => by
              have hi2 : i < k := by rw [← HN.out.1]; exact hi
              have h1 := HAL.out i hi2
              have h2 := HN.out.2.2 i hi2
              rw [h2.1, h2.2] at h1
              refine Classical.byContradiction fun hno => ?_
              have h3 : allN (fun y => !litT o.tn o.t y) (fun j => (clU v i).lits.getD j 0) (clU v i).lits.length = true := allN_true.2 fun j hj => by
                cases e : litT o.tn o.t ((clU v i).lits.getD j 0) with
                | false => rfl
                | true => exact absurd ⟨_, by simp [List.getD, List.getElem?_eq_getElem hj], e⟩ hno
              rw [h1] at h3
              cases h3)
          have HB2 := hide' hB
          clear hB
          go_wp2_with fail
          go_loopw [11] (fun vi ws => ∃ j : Nat, j ≤ nm ∧ vi = .int .i64 j ∧ Below w6.heap.size w6 ws ∧ ∀ i, i < j → (mkU v i).r = -1 → litT o.tn o.t (mkU v i).l = true) (fun vi _ => nm - (intOf vi).toNat)
          case atStart => exact ⟨0, Nat.zero_le _, rfl, HB2.out, fun i hi => absurd hi (by omega)⟩
          case round =>
            clear HB2
            obtain ⟨j, hj, rfl, hB, hal⟩ := hrel
            have HAM := hide' hal
            clear hal
            by_cases hlt2 : j < nm
            · have i2 : (j : Int) < (nm : Int) := by omega
              have i0 : (0 : Int) ≤ (j : Int) := by omega
              have cl := below_cell hB (HG.out j hlt2).1
              have cr := below_cell hB (HG.out j hlt2).2
              have x2r := below_cell hB x2
              have GT := hide' (fun w' (hb : Below w6.heap.size w6 w') => True_is (mkU v j).l o.ta o.tn o.tc o.t (HM.out j hlt2).1 (HM.out j hlt2).2 w' (HT6.out.later hb))
              have HN2 := hide' (show ((mkU v j).r = -1 → litT o.tn o.t (mkU v j).l = true) → ∀ i, i < j + 1 → (mkU v i).r = -1 → litT o.tn o.t (mkU v i).l = true from fun h0 i hi he => by rcases Nat.lt_or_ge i j with e | e; exact HAM.out i e he; (obtain rfl : i = j := by omega); exact h0 he)
              obtain ⟨y, hy⟩ : ∃ y, (mkU v j).l = y := ⟨_, rfl⟩
              obtain ⟨re, hre⟩ : ∃ y, (mkU v j).r = y := ⟨_, rfl⟩
              rw [hy] at cl GT HN2
              rw [hre] at cr HN2
              clear hy hre HAM
              replace hB := hide' hB
              by_cases hr9 : re = -1
              · subst hr9
                cases hv : litT o.tn o.t y with
                | true =>
                  rw [hv] at GT
                  have HN3 := hide' (HN2.out fun _ => hv)
                  clear hv HN2
                  go_wp2_with fail
                  go_quiet ((go_at_call 26; exact Calls.quiet_of_same (GT.out _ (below_drewN hB.out))))
                  go_wp2_with fail
                  go_roundw
                  case rel => exact ⟨j + 1, by omega, by go_num, below_drewN hB.out, HN3.out⟩
                  case measure => simp only [intOf]; omega
                | false =>
                  rw [hv] at GT
                  clear hv HN2
                  go_wp2_with fail
                  go_quiet ((go_at_call 26; exact Calls.quiet_of_same (GT.out _ (below_drewN hB.out))))
                  go_wp2
                  have hfin := HBW.out.trans ((below_drewN (n := nq) hB.out).mono HBW.out.size)
                  first | exact ⟨rfl, hfin⟩ | (go_ret; exact ⟨rfl, hfin⟩)
              · have hrb : (re == -1) = false := by simp [hr9]
                have HN3 := hide' (HN2.out fun e => absurd e hr9)
                clear HN2 hr9
                go_wp2_with fail
                go_quiet ((go_at_call 26; exact Calls.quiet_of_same (GT.out _ (below_drewN hB.out))))
                go_wp2_with fail
                go_roundw
                case rel => exact ⟨j + 1, by omega, by go_num, below_drewN hB.out, HN3.out⟩
                case measure => simp only [intOf]; omega
            · obtain rfl : j = nm := by omega
              have i2 : ¬ (j : Int) < (j : Int) := by omega
              have HAllM := hide' (show ∀ i, i < j → litT o.tn o.t (mkU v i).l = true from fun i hi => follow_all HR.out.1 HR.out.2.1 HF0.out (fun i hi he => HAM.out i (by rw [← HN.out.2.1]; exact hi) he) HIU.out.2.1 i (by rw [HN.out.2.1]; exact hi))
              have hre : r = -1 := by rcases HR.out.2.2 with ⟨e, _⟩ | ⟨n9, _, hbk⟩; exact e; exact absurd hbk (follow_no HR.out.1 HF0.out (fun i hi => HAllM.out i (by rw [← HN.out.2.1]; exact hi)) n9)
              have HB3 := hide' hB
              clear hB HAM
              go_wp2_with fail
              go_loopw [12] (fun vi ws => ∃ i : Nat, i ≤ j ∧ vi = .int .i64 i ∧ Below w6.heap.size w6 ws) (fun vi _ => j - (intOf vi).toNat)
              case atStart => exact ⟨0, Nat.zero_le _, rfl, HB3.out⟩
              case round =>
                clear HB3
                obtain ⟨i, hi, rfl, hB⟩ := hrel
                by_cases hlt3 : i < j
                · have i3 : (i : Int) < (j : Int) := by omega
                  have i0 : (0 : Int) ≤ (i : Int) := by omega
                  have cl := below_cell hB (HG.out i hlt3).1
                  have x2r := below_cell hB x2
                  have GT := hide' (fun w' (hb : Below w6.heap.size w6 w') => True_is (mkU v i).l o.ta o.tn o.tc o.t (HM.out i hlt3).1 (HM.out i hlt3).2 w' (HT6.out.later hb))
                  rw [HAllM.out i hlt3] at GT
                  generalize (mkU v i).l = y at cl GT
                  replace hB := hide' hB
                  go_wp2_with fail
                  go_quiet ((go_at_call 26; exact Calls.quiet_of_same (GT.out _ (below_drewN hB.out))))
                  go_wp2_with fail
                  go_roundw
                  case rel => exact ⟨i + 1, by omega, by go_num, below_drewN hB.out⟩
                  case measure => simp only [intOf]; omega
                · obtain rfl : i = j := by omega
                  have i3 : ¬ (i : Int) < (i : Int) := by omega
                  have hfin := HBW.out.trans (hB.mono HBW.out.size)
                  replace hfin := hide' hfin
                  clear hB
                  have hrb : (r == -1) = true := by rw [hre]; rfl
                  go_wp2
                  first | exact ⟨rfl, hfin.out⟩ | (go_ret; exact ⟨(by first | rfl | simp [hrb] | simp [hre]), hfin.out⟩)
    · obtain ⟨nn, rfl⟩ : ∃ nn : Nat, x = (nn : Int) := ⟨x.toNat, by omega⟩
      obtain ⟨w0, hw0⟩ : ∃ w0, w.alloc (.cells #[.int .i64 (nn : Int), .slice o.da o.dn o.dc, .slice o.ta o.tn o.tc] 58) = w0 := ⟨_, rfl⟩
      have b0 : Below w.heap.size w w0 := by rw [← hw0]; exact below_alloc _
      have hA0 : w0.heap[w.heap.size]? = some (.cells #[.int .i64 (nn : Int), .slice o.da o.dn o.dc, .slice o.ta o.tn o.tc] 58 (0, 0)) := by rw [← hw0]; exact heap_alloc_new w _
      have fz := fun o => frozen_of_row w0 w.heap.size o _ _ hA0
      have x0 : w0.cell? ⟨w.heap.size, 0, none⟩ = some (.int .i64 (nn : Int)) := by rw [cell_of_row w0 _ _ _ _ _ hA0]; rfl
      have x1 : w0.cell? ⟨w.heap.size, 1, none⟩ = some (.slice o.da o.dn o.dc) := by rw [cell_of_row w0 _ _ _ _ _ hA0]; rfl
      have x2 : w0.cell? ⟨w.heap.size, 2, none⟩ = some (.slice o.ta o.tn o.tc) := by rw [cell_of_row w0 _ _ _ _ _ hA0]; rfl
      obtain ⟨q, hq⟩ : ∃ q, w.heap.size = q := ⟨_, rfl⟩
      rw [hq] at x0 x1 x2 fz
      have hqw := hide' hq
      clear hA0
      go_enter Try.func7, Try.ntmps7
      go_wp2_with (first | (rw [hw0, hq]) | rw [hw0] | rw [hq])
      have B1 := b0
      clear fz hw0 b0 hq
      have HB1 := hide' B1
      clear B1
      have GM := hide' (made_is nn (by omega) ca cn cc f o.da o.dn o.dc o.d HA.out.2.2.2 w0 (HA.out.2.1.later HB1.out) (HA.out.1.da.later HB1.out))
      have HIU := hide' (And.intro (made_iv (n := nn) (cn := cn) (f := f) (dn := o.dn) (d := o.d) (by omega)) (And.intro (made_dec (n := nn) (cn := cn) (f := f) (dn := o.dn) (d := o.d) (by omega)) (made_lits (n := nn) (cn := cn) (f := f) (dn := o.dn) (d := o.d) HA.out.2.2.2)))
      obtain ⟨U, hU⟩ : ∃ U, madeU nn cn f o.dn o.d = U := ⟨_, rfl⟩
      rw [hU] at GM HIU
      clear hU
      go_wp2_with fail
      refine GM.out.mono ?_
      rintro e w3 ⟨b, ow, V, rfl, hU, hB3, hoth⟩
      clear GM
      have HX2 := hide' x2
      clear x0 x1 x2
      have GP := hide' (propagate_is ow b V U HIU.out.1 w3 hU)
      have HO := hide' (And.intro hB3 hoth)
      clear hU hB3 hoth
      go_wp2_with fail
      refine GP.out.mono ?_
      rintro e w4 ⟨r, v, ow4, V4, rfl, h4, S4, I4, E4, hr⟩
      clear GP
      have B4 := HO.out.1.trans (S4.below HO.out.2 HO.out.1.size)
      clear S4 HO
      have GK := hide' (marks_is ow4 b V4 v w4 h4 I4.rd)
      have GC := hide' (fun w' (hb : Below w4.heap.size w4 w') => clauses_is ow4 b V4 v w' (h4.later hb) I4.rd I4.wo.cl (fun m _ => by rw [E4.lits]; exact HIU.out.2.2 m) I4.li)
      have HR := hide' (And.intro I4 (And.intro E4 hr))
      have hr1 : r ≥ -1 := by rcases hr with ⟨e, _⟩ | ⟨n, e, _⟩ <;> omega
      clear h4 I4 E4 hr
      go_wp2_with fail
      refine GK.out.mono ?_
      rintro e w5 ⟨gm, rfl, hgm, hgs, b5⟩
      clear GK
      go_wp2_with fail
      refine (GC.out _ b5).mono ?_
      rintro e w6 ⟨ao, fo, rfl, hCo, hfo, b6⟩
      clear GC
      have hgm6 := (b6.block gm (Array.getElem?_eq_some_iff.1 hgm).1).trans hgm
      have B6 := B4.trans ((b5.trans (b6.mono b5.size)).mono B4.size)
      have x2 := below_cell B6 HX2.out
      have BW := HB1.out.trans (B6.mono HB1.out.size)
      have hT6 := HA.out.1.ta.later BW
      obtain ⟨nc, hnc⟩ : ∃ k, v.cl.length = k := ⟨_, rfl⟩
      obtain ⟨nm, hnm⟩ : ∃ k, v.mks.length = k := ⟨_, rfl⟩
      have hncC : nc ≤ 1048576 := by rw [← hnc]; exact HR.out.1.wo.cl
      have hnmM : nm ≤ 262144 := by rw [← hnm]; exact HR.out.1.rd.nM
      rw [hnc] at hCo hfo
      try rw [hnc]
      try rw [hnm]
      have HG := hide' (show ∀ j, j < nm → w6.cell? ⟨gm, j * 3, none⟩ = some (.int .i64 (mkU v j).l) ∧ w6.cell? ⟨gm, j * 3 + 2, none⟩ = some (.int .i64 (mkU v j).r) from fun j hj => mk_cell hgm6 (by rw [hnm]; exact hj))
      have HM := hide' (show ∀ j, j < nm → -9223372036854775808 < (mkU v j).l ∧ (mkU v j).l ≤ 9223372036854775807 from fun j hj => by have h1 := (HR.out.1.tr.lit j (by rw [hnm]; exact hj)).1.2; have h2 := HR.out.1.rd.nT; unfold InR at h1; omega)
      have HL := hide' (show ∀ i, i < nc → ∀ j, j < (fo i).n → isLit ((fo i).g j) = true from fun i hi j hj => by
          have h1 := hfo i hi
          rw [h1.1] at hj
          rw [h1.2]
          exact isLit_of HR.out.1.rd (HR.out.1.li i (by rw [hnc]; exact hi) _ (by simp [List.getD, List.getElem?_eq_getElem hj])))
      have HN := hide' (And.intro hnc (And.intro hnm hfo))
      have HCo := hide' hCo
      have HT6 := hide' hT6
      have HBW := hide' BW
      clear hnc hnm hfo hCo hT6 BW hgm hgm6 hgs b5 b6 B4 B6
      go_wp2_with fail
      go_loopw [9] (fun vi wr => ∃ k : Nat, k ≤ nc ∧ vi = .int .i64 k ∧ Below w6.heap.size w6 wr ∧ ∀ i, i < k → allN (fun y => !litT o.tn o.t y) (fo i).g (fo i).n = false) (fun vi _ => nc - (intOf vi).toNat)
      case atStart => exact ⟨0, Nat.zero_le _, rfl, Below.refl _ _, fun i hi => absurd hi (by omega)⟩
      case round =>
        obtain ⟨k, hk, rfl, hB, hal⟩ := hrel
        have HAL := hide' hal
        clear hal
        by_cases hlt : k < nc
        · obtain ⟨bb, off, rfl, hcell⟩ := HCo.out.2.2 (by omega)
          have ck := below_cell hB (hcell k hlt)
          clear hcell
          have i1 : (k : Int) < (nc : Int) := by omega
          have i0 : (0 : Int) ≤ (k : Int) := by omega
          have x2r := below_cell hB x2
          have GA := hide' (fun w' (hb : Below w6.heap.size w6 w') => Made_is (fo k).a (fo k).n (fo k).c (fo k).g o.ta o.tn o.tc o.t w' ((HCo.out.2.1 k hlt).later hb) (HT6.out.later hb) (HL.out k hlt))
          cases hv : allN (fun y => !litT o.tn o.t y) (fo k).g (fo k).n with
          | true =>
            rw [hv] at GA
            clear hv
            replace hB := hide' hB
            go_wp2_with fail
            go_quiet ((go_at_call 25; exact Calls.quiet_of_same (GA.out _ (below_drewN hB.out))))
            go_wp2
            have hfin := HBW.out.trans ((below_drewN (n := nq) hB.out).mono HBW.out.size)
            first | exact ⟨rfl, hfin⟩ | (go_ret; exact ⟨(by first | rfl | (simp; omega) | (simp [hr1])), hfin⟩)
          | false =>
            rw [hv] at GA
            have HAL2 := hide' (show ∀ i, i < k + 1 → allN (fun y => !litT o.tn o.t y) (fo i).g (fo i).n = false from fun i hi => by rcases Nat.lt_or_ge i k with e | e; exact HAL.out i e; (obtain rfl : i = k := by omega); exact hv)
            clear hv
            replace hB := hide' hB
            go_wp2_with fail
            go_quiet ((go_at_call 25; exact Calls.quiet_of_same (GA.out _ (below_drewN hB.out))))
            go_wp2_with fail
            go_roundw
            case rel => exact ⟨k + 1, by omega, by go_num, below_drewN hB.out, HAL2.out⟩
            case measure => simp only [intOf]; omega
        · obtain rfl : k = nc := by omega
          have i1 : ¬ (k : Int) < (k : Int) := by omega
          have HF0 := hide' (show ∀ i, i < v.cl.length → ∃ y ∈ (clU v i).lits, litT o.tn o.t y = true from fun i hi => by
              have hi2 : i < k := by rw [← HN.out.1]; exact hi
              have h1 := HAL.out i hi2
              have h2 := HN.out.2.2 i hi2
              rw [h2.1, h2.2] at h1
              refine Classical.byContradiction fun hno => ?_
              have h3 : allN (fun y => !litT o.tn o.t y) (fun j => (clU v i).lits.getD j 0) (clU v i).lits.length = true := allN_true.2 fun j hj => by
                cases e : litT o.tn o.t ((clU v i).lits.getD j 0) with
                | false => rfl
                | true => exact absurd ⟨_, by simp [List.getD, List.getElem?_eq_getElem hj], e⟩ hno
              rw [h1] at h3
              cases h3)
          have HB2 := hide' hB
          clear hB
          go_wp2_with fail
          go_loopw [11] (fun vi ws => ∃ j : Nat, j ≤ nm ∧ vi = .int .i64 j ∧ Below w6.heap.size w6 ws ∧ ∀ i, i < j → (mkU v i).r = -1 → litT o.tn o.t (mkU v i).l = true) (fun vi _ => nm - (intOf vi).toNat)
          case atStart => exact ⟨0, Nat.zero_le _, rfl, HB2.out, fun i hi => absurd hi (by omega)⟩
          case round =>
            clear HB2
            obtain ⟨j, hj, rfl, hB, hal⟩ := hrel
            have HAM := hide' hal
            clear hal
            by_cases hlt2 : j < nm
            · have i2 : (j : Int) < (nm : Int) := by omega
              have i0 : (0 : Int) ≤ (j : Int) := by omega
              have cl := below_cell hB (HG.out j hlt2).1
              have cr := below_cell hB (HG.out j hlt2).2
              have x2r := below_cell hB x2
              have GT := hide' (fun w' (hb : Below w6.heap.size w6 w') => True_is (mkU v j).l o.ta o.tn o.tc o.t (HM.out j hlt2).1 (HM.out j hlt2).2 w' (HT6.out.later hb))
              have HN2 := hide' (show ((mkU v j).r = -1 → litT o.tn o.t (mkU v j).l = true) → ∀ i, i < j + 1 → (mkU v i).r = -1 → litT o.tn o.t (mkU v i).l = true from fun h0 i hi he => by rcases Nat.lt_or_ge i j with e | e; exact HAM.out i e he; (obtain rfl : i = j := by omega); exact h0 he)
              obtain ⟨y, hy⟩ : ∃ y, (mkU v j).l = y := ⟨_, rfl⟩
              obtain ⟨re, hre⟩ : ∃ y, (mkU v j).r = y := ⟨_, rfl⟩
              rw [hy] at cl GT HN2
              rw [hre] at cr HN2
              clear hy hre HAM
              replace hB := hide' hB
              by_cases hr9 : re = -1
              · subst hr9
                cases hv : litT o.tn o.t y with
                | true =>
                  rw [hv] at GT
                  have HN3 := hide' (HN2.out fun _ => hv)
                  clear hv HN2
                  go_wp2_with fail
                  go_quiet ((go_at_call 26; exact Calls.quiet_of_same (GT.out _ (below_drewN hB.out))))
                  go_wp2_with fail
                  go_roundw
                  case rel => exact ⟨j + 1, by omega, by go_num, below_drewN hB.out, HN3.out⟩
                  case measure => simp only [intOf]; omega
                | false =>
                  rw [hv] at GT
                  clear hv HN2
                  go_wp2_with fail
                  go_quiet ((go_at_call 26; exact Calls.quiet_of_same (GT.out _ (below_drewN hB.out))))
                  go_wp2
                  have hfin := HBW.out.trans ((below_drewN (n := nq) hB.out).mono HBW.out.size)
                  first | exact ⟨rfl, hfin⟩ | (go_ret; exact ⟨rfl, hfin⟩)
              · have hrb : (re == -1) = false := by simp [hr9]
                have HN3 := hide' (HN2.out fun e => absurd e hr9)
                clear HN2 hr9
                go_wp2_with fail
                go_quiet ((go_at_call 26; exact Calls.quiet_of_same (GT.out _ (below_drewN hB.out))))
                go_wp2_with fail
                go_roundw
                case rel => exact ⟨j + 1, by omega, by go_num, below_drewN hB.out, HN3.out⟩
                case measure => simp only [intOf]; omega
            · obtain rfl : j = nm := by omega
              have i2 : ¬ (j : Int) < (j : Int) := by omega
              have HAllM := hide' (show ∀ i, i < j → litT o.tn o.t (mkU v i).l = true from fun i hi => follow_all HR.out.1 HR.out.2.1 HF0.out (fun i hi he => HAM.out i (by rw [← HN.out.2.1]; exact hi) he) HIU.out.2.1 i (by rw [HN.out.2.1]; exact hi))
              have hre : r = -1 := by rcases HR.out.2.2 with ⟨e, _⟩ | ⟨n9, _, hbk⟩; exact e; exact absurd hbk (follow_no HR.out.1 HF0.out (fun i hi => HAllM.out i (by rw [← HN.out.2.1]; exact hi)) n9)
              have HB3 := hide' hB
              clear hB HAM
              go_wp2_with fail
              go_loopw [12] (fun vi ws => ∃ i : Nat, i ≤ j ∧ vi = .int .i64 i ∧ Below w6.heap.size w6 ws) (fun vi _ => j - (intOf vi).toNat)
              case atStart => exact ⟨0, Nat.zero_le _, rfl, HB3.out⟩
              case round =>
                clear HB3
                obtain ⟨i, hi, rfl, hB⟩ := hrel
                by_cases hlt3 : i < j
                · have i3 : (i : Int) < (j : Int) := by omega
                  have i0 : (0 : Int) ≤ (i : Int) := by omega
                  have cl := below_cell hB (HG.out i hlt3).1
                  have x2r := below_cell hB x2
                  have GT := hide' (fun w' (hb : Below w6.heap.size w6 w') => True_is (mkU v i).l o.ta o.tn o.tc o.t (HM.out i hlt3).1 (HM.out i hlt3).2 w' (HT6.out.later hb))
                  rw [HAllM.out i hlt3] at GT
                  generalize (mkU v i).l = y at cl GT
                  replace hB := hide' hB
                  go_wp2_with fail
                  go_quiet ((go_at_call 26; exact Calls.quiet_of_same (GT.out _ (below_drewN hB.out))))
                  go_wp2_with fail
                  go_roundw
                  case rel => exact ⟨i + 1, by omega, by go_num, below_drewN hB.out⟩
                  case measure => simp only [intOf]; omega
                · obtain rfl : i = j := by omega
                  have i3 : ¬ (i : Int) < (i : Int) := by omega
                  have hfin := HBW.out.trans (hB.mono HBW.out.size)
                  replace hfin := hide' hfin
                  clear hB
                  have hrb : (r == -1) = true := by rw [hre]; rfl
                  go_wp2
                  first | exact ⟨rfl, hfin.out⟩ | (go_ret; exact ⟨(by first | rfl | simp [hrb] | simp [hre]), hfin.out⟩)
theorem walk (o : VaV) (ca : Option Addr) (cn cc : Nat) (f : Nat → Cla) (w : World) (ho : o.ok w) (hC : ClasAt w ca cn f) (hcl : ∀ i, i < cn → (f i).n ≤ 17592186044416) :
    Calls Try.prog 7 #[.agg #[.int .i64 o.n, .slice o.da o.dn o.dc, .slice o.ta o.tn o.tc], .slice ca cn cc] w fun e w' => e = .returned (.bool true) ∧ Below w.heap.size w w' := walkM o ca cn cc f w ho hC hcl

set_option maxRecDepth 100000 in
theorem contract (H : Type) (enc : TypeId × Value → H) (W : World) (base : Nat) (args : Array Value) (ds gs : List (DataW H)) (before : List MemPlace)
    (hval : ∀ (j : Nat) t v, Try.f7.params[j]? = some t → args[j]? = some v → Value.okWide Try.prog W .any base t v)
    (hW : DataW.Whole enc Try.prog Try.f7.params.toList Rows.unitsFollowSpec.vars false W args.toList ds gs before)
    (hsz : (DataW.weightsEach Try.prog (Try.f7.params.toList ++ Rows.unitsFollowSpec.plain.varTypes Try.prog) (ds ++ gs)).all (· ≤ reachBytes) = true) :
    Calls Try.prog 7 args W fun e W' => ∃ v, e = .returned v ∧ Rows.unitsFollowSpec.post enc Try.prog Try.f7 false true false false W args v W' := by
  have hW' := hW
  obtain ⟨p, q, hA0, hV, rfl, hfz, hnd⟩ := hW
  have hA : DataW.TrodAll enc Try.prog W 0 (fun _ => true) true Try.f7.params.toList args.toList ds p := hA0
  rw [Try.params7] at hA hval hsz
  obtain ⟨v0, vs0, d0, ds0, p0, q0, hargs, rfl, rfl, h0, r0⟩ := trodAll_cons hA
  obtain ⟨v1, vs1, d1, ds1, p1, q1, rfl, rfl, rfl, h1, r1⟩ := trodAll_cons r0
  obtain ⟨rfl, rfl, rfl⟩ := trodAll_nil r1
  obtain rfl : args = #[v0, v1] := by cases args; simp_all
  obtain ⟨rfl, rfl⟩ := trodVars_none hV
  have lt0 : ∀ x ∈ p0, x.block < W.heap.size := by obtain ⟨m, hm⟩ := h0; exact DataW.trod_lt m _ _ _ hm
  obtain ⟨vu0, rfl, hvu0⟩ := open_Val (hval 0 58 v0 rfl rfl) h0
  have lt1 : ∀ x ∈ p1, x.block < W.heap.size := by obtain ⟨m, hm⟩ := h1; exact DataW.trod_lt m _ _ _ hm
  obtain ⟨ca1, cn1, cc1, rfl⟩ := okWide_slice Try.underlying34 (hval 1 34 v1 rfl rfl)
  obtain ⟨cf1, hC1, hCk1, hCc1, hCu1⟩ := open_ClasS h1 (sized_at9 1 hsz rfl rfl)
  clear hA0
  simp only [List.append_nil] at hW'
  refine (walk vu0 ca1 cn1 cc1 cf1 W hvu0 hC1 hCu1).mono fun e W' ⟨he, bel⟩ => ?_
  subst he
  exact ⟨_, rfl, _, _, _, [], _, [], hW', trodAll_mk1 (shut_bool Try.underlying4 _), (trodAll_cons_mk (Below.trod laidOut (by kernel_rfl) (of_decide_eq_true (by kernel_rfl)) h0 bel lt0) (trodAll_cons_mk (Below.trod laidOut (by kernel_rfl) (of_decide_eq_true (by kernel_rfl)) h1 bel lt1) trodAll_mk0)), rfl, bel.frame _, fun h => by cases h⟩

set_option maxRecDepth 100000 in
theorem lifted (os : Os) (started : os.Started) (H : Type) (enc : TypeId × Value → H) :
    ReturnsInHanded {} Try.checked os 7 .any (Rows.unitsFollowSpec.pre6 enc Try.prog Try.f7 Rows.unitsFollowRow.domain false) (Rows.unitsFollowSpec.post enc Try.prog Try.f7 false true false false) := by
  refine returnsInHanded_of_change_sized (C := Try.checked) own started (by kernel_rfl) Try.func7
    (ChangeSpec.witness6 (enc := enc) (C := Try.checked) false ⟨#[], #[.agg #[.int .i64 0, .slice none 0 0, .slice none 0 0], .slice none 0 0], []⟩ 8 (by kernel_rfl) (by kernel_rfl) (by kernel_rfl) (by kernel_rfl)) ?_
  intro W base args ds gs before hval hW _ hsz _
  exact contract H enc W base args ds gs before hval hW hsz

theorem over : Rows.unitsFollowRow.holds Try.pinned (OpenSpec.ofChange Rows.unitsFollowSpec) :=
  OpenClaim.holds_of_wide 7 Try.f7 rfl rfl rfl rfl rfl rfl rfl ⟨rfl, rfl, rfl, rfl, rfl⟩ rfl rfl rfl rfl rfl (by kernel_rfl) Try.func7 (by kernel_rfl)
    (of_decide_eq_true (by kernel_rfl)) (by unfold Func.isWrapper; first | (rw [if_pos (by decide +kernel)]; kernel_rfl) | (rw [if_neg (by decide +kernel)]; exact ⟨rfl, rfl⟩))
    (fun os started H enc _ => lifted os started H enc)

end Go.Proofs.Ytfodejhipnmgnaa.unitsFollow
namespace Go.Proofs.Ytfodejhipnmgnaa
theorem unitsFollow_holds : Rows.UnitsFollowSaid := unitsFollow.over
#print axioms unitsFollow_holds
end Go.Proofs.Ytfodejhipnmgnaa
