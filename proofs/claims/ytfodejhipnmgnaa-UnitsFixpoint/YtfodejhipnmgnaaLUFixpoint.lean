/-
  UnitsFixpoint.
-/
import Derived.Test.YtfodejhipnmgnaaUH2
namespace Go.Proofs.Ytfodejhipnmgnaa.unitsFixpoint
open Go.ChangeShapes Go.WideShapes Go.ChangeAt Go.RowKit Go.Proofs.Ytfodejhipnmgnaa
set_option linter.unusedVariables false
set_option linter.unusedSimpArgs false
set_option maxHeartbeats 16000000 in
set_option maxRecDepth 100000 in
theorem walkM (x : Int) (ca : Option Addr) (cm cc : Nat) (f : Nat → Cla) (da : Option Addr) (dn dc : Nat) (d : Nat → Int) (w : World) (hx1 : -9223372036854775808 ≤ x) (hx2 : x ≤ 9223372036854775807) (hC : ClasAt w ca cm f) (hcl : ∀ i, i < cm → (f i).n ≤ 17592186044416) (hcc : cm ≤ cc) (hD : LitsAt w da dn d) :
    Calls Try.prog 6 #[.int .i64 x, .slice ca cm cc, .slice da dn dc] w fun e w' => e = .returned (.bool true) ∧ Below w.heap.size w w' := by
  have hcm := hC.1
  obtain ⟨cn, hcn0⟩ : ∃ n, min cm 1048576 = n := ⟨_, rfl⟩
  have hcn : cn ≤ 1048576 := by omega
  have hcn1 : cn ≤ cm := by omega
  have hC2 : ClasAt w ca cn f := ⟨by omega, fun i hi => hC.2.1 i (by omega), fun h0 => by obtain ⟨b, off, e, h⟩ := hC.2.2 (by omega); exact ⟨b, off, e, fun i hi => h i (by omega)⟩⟩
  have hcl2 : ∀ i, i < cn → (f i).n ≤ 17592186044416 := fun i hi => hcl i (by omega)
  have HM := hide' maxLen_is
  obtain ⟨ki, hki, hkz, hks, hkb⟩ := info_parts info_c
  have HA := hide' (And.intro hD (And.intro hC2 (And.intro hcn hcl2)))
  clear hC hC2 hcl hcl2 hD
  obtain ⟨f9, hf9⟩ : ∃ f9 : Nat → Cla, ∀ i, f9 i = f (cn - 1 - i) := ⟨fun i => f (cn - 1 - i), fun i => rfl⟩
  have HF := hide' hf9
  clear hf9
  by_cases hbig : 1048576 < cm
  · have hcE : cn = 1048576 := by omega
    have i9 : (cm : Int) > 1048576 := by omega
    have hcut := fun w => cutC ca cm cc cn hcE (by omega) w
    replace hcE := hide' hcE
    replace hcm := hide' hcm
    clear hcn0 hbig
    by_cases h0 : x < 0
    · skip
      go_enter Try.func6, Try.ntmps6
      have HP := hide' (made_pair (n := 3) (cn := cn) (f := f) (f' := f9) (dn := dn) (d := d) (by omega) HA.out.2.2.1 fun i _ => HF.out i)
      have hl9 : ∀ i, i < cn → (f9 i).n ≤ 17592186044416 := fun i hi => by rw [HF.out]; exact HA.out.2.2.2 _ (by omega)
      have HIA := hide' (And.intro (made_iv (n := 3) (cn := cn) (f := f) (dn := dn) (d := d) (by omega)) (made_lits (n := 3) (cn := cn) (f := f) (dn := dn) (d := d) HA.out.2.2.2))
      have HIB := hide' (And.intro (made_iv (n := 3) (cn := cn) (f := f9) (dn := dn) (d := d) (by omega)) (made_lits (n := 3) (cn := cn) (f := f9) (dn := dn) (d := d) hl9))
      have GA := hide' (made_is 3 (by omega) ca cn cc f da dn dc d HA.out.2.2.2 w HA.out.2.1 HA.out.1)
      have GB := hide' (fun w' (hb : Below w.heap.size w w') a c (hC9 : ClasAt w' a cn f9) => made_is 3 (by omega) a cn c f9 da dn dc d hl9 w' hC9 (HA.out.1.later hb))
      obtain ⟨UA, hUA⟩ : ∃ U, madeU 3 cn f dn d = U := ⟨_, rfl⟩
      obtain ⟨UB, hUB⟩ : ∃ U, madeU 3 cn f9 dn d = U := ⟨_, rfl⟩
      rw [hUA] at GA HP HIA
      rw [hUB] at GB HP HIB
      clear hUA hUB hl9
      go_wp2_with fail
      refine GA.out.mono ?_
      rintro e w1 ⟨ba, owa, Va, rfl, hUa, B1, hoa⟩
      clear GA
      have H1 := hide' (And.intro hUa (And.intro B1 hoa))
      clear hUa B1 hoa
      go_wp2_with fail
      go_loopw [8, 9] (fun vo vi wr => ∃ k : Nat, k ≤ cn ∧ vi = .int .i64 ((cn : Int) - 1 - (k : Int)) ∧ wr.ownsRow w1.heap.size 41 1 vo k (clk f9 k) ∧ Below w1.heap.size w1 wr) (fun _ vi _ => (intOf vi + 1).toNat)
      case atStart => exact ⟨0, Nat.zero_le _, by go_num, World.ownsRow_nil _ _ _ _, Below.refl _ _⟩
      case round =>
        obtain ⟨k, hk, rfl, hO, hB⟩ := hrel
        by_cases hlt : k < cn
        · obtain ⟨bb, off, rfl, hcell⟩ := HA.out.2.1.2.2 (by omega)
          obtain ⟨q, hq⟩ : ∃ q : Nat, (cn : Int) - 1 - (k : Int) = (q : Int) := ⟨cn - 1 - k, by omega⟩
          rw [hq]
          have hqn : q = cn - 1 - k := by omega
          have ck := below_cell hB (below_cell H1.out.2.1 (hcell q (by omega)))
          clear hcell
          have hfk : f q = f9 k := by rw [HF.out, hqn]
          rw [hfk] at ck
          have i0 : (0 : Int) ≤ (q : Int) := by omega
          have i1 : (q : Int) < (cn : Int) := by omega
          have HV := hide' (clk_succ f9 k)
          obtain ⟨C, hCe⟩ : ∃ C, f9 k = C := ⟨_, rfl⟩
          rw [hCe] at ck HV
          clear hCe hfk hqn
          have hq9 := hide' hq
          clear hq
          obtain ⟨xs, hxs⟩ : ∃ xs, clk f9 k = xs := ⟨_, rfl⟩
          rw [hxs] at hO HV
          clear hxs
          obtain ⟨wB, hwB⟩ : ∃ wB, wr.alloc (.cells #[.slice C.a C.n C.c] 41) = wB := ⟨_, rfl⟩
          have hnew := heap_alloc_new wr (.cells #[.slice C.a C.n C.c] 41)
          have b3 := below_alloc (w := wr) (.cells #[.slice C.a C.n C.c] 41)
          rw [hwB] at hnew b3
          have hO3 := own_below hO b3
          have s3 := b3.size
          have s4 := hB.size
          have hbB : w1.heap.size ≤ wB.heap.size := by omega
          have hl1 : k + 1 ≤ maxLen := by have := HM.out; omega
          have hl2 : (k + 1) * 24 ≤ 140737488355328 := by omega
          have hrow := fun j hj => (hO.lt j hj)
          go_wp2_with (at_builtin; (try rw [hwB]); refine wpList_append_lies _ (by rfl) _ _ _ (by rfl) w1.heap.size 41 ki _ 1 24 Try.underlying34 hki hkz hks hkb rfl (by omega) u8 k xs (by rfl) hO3 ⟨wr.heap.size, 0, none⟩ 1 1 [.slice C.a C.n C.c] (by rfl) (by rfl) (World.news_of_block (cs := #[.slice C.a C.n C.c]) (t := 41) (fr := (0, 0)) hnew) (by simp [Value.oneCell']) (by omega) hl1 hl2 hbB wB.heap.size rfl ?_)
          intro gb cap w9 hown hgrow hat hlt9
          have hB9 := hB.trans (b3.mono hB.size)
          have b9 := below_grown hB9.size (fun j hj => (hrow j hj).1) hgrow
          have I1 := hide' (show w9.ownsRow w1.heap.size 41 1 (.slice (some ⟨gb, 0, none⟩) (k + 1) cap) (k + 1) (clk f9 (k + 1)) ∧ Below w1.heap.size w1 w9 from ⟨by rw [HV.out]; exact hown, hB9.trans b9⟩)
          clear hown hgrow hat hlt9 hnew b3 hO3 hB9 b9 hrow s3 s4 hbB hl1 hl2 hO hB hwB HV
          go_wp2
          go_roundw
          case rel => exact ⟨k + 1, by omega, by have hq := hq9.out; first | go_num | (simp; omega), I1.out.1, I1.out.2⟩
          case measure => have hq := hq9.out; simp only [intOf]; omega
        · obtain rfl : k = cn := by omega
          rw [show (k : Int) - 1 - (k : Int) = -1 from by omega]
          obtain ⟨aB, cB, rfl, hC9⟩ := own_clas hO HA.out.2.2.1 fun i hi => by rw [HF.out]; exact ((HA.out.2.1.2.1 _ (by omega)).later H1.out.2.1).later hB
          have GB2 := hide' (GB.out wr (H1.out.2.1.trans (hB.mono H1.out.2.1.size)) aB cB hC9)
          have HB2 := hide' hB
          clear hO hB hC9 GB
          go_wp2_with fail
          refine GB2.out.mono ?_
          rintro e w3 ⟨bb, owb, Vb, rfl, hUb, B3, hob⟩
          clear GB2
          have hUa := (H1.out.1.later HB2.out).later B3
          have hdj : ∀ x, owa x ≠ .oth → owb x = .oth := fun x hx => hob x (by rcases Nat.lt_or_ge x w1.heap.size with e | e; (have := HB2.out.size; omega); exact absurd (H1.out.1.hi x e) hx)
          have BW3 := H1.out.2.1.trans ((HB2.out.trans (B3.mono HB2.out.size)).mono H1.out.2.1.size)
          have GPA := hide' (propagate_is owa ba Va UA HIA.out.1 w3 hUa)
          have H3 := hide' (And.intro hUb (And.intro hdj (And.intro BW3 (show ∀ x, x < w.heap.size → owb x = .oth from fun x hx => hob x (by have h1 := H1.out.2.1.size; have h2 := HB2.out.size; omega)))))
          clear hUb hdj BW3 hob hUa B3
          go_wp2_with fail
          refine GPA.out.mono ?_
          rintro e w4 ⟨r, va, owa4, Va4, rfl, h4, S4, Ia, Ea, hra⟩
          clear GPA
          obtain ⟨hUb4, hdj4⟩ := H3.out.1.apart S4 H3.out.2.1
          have BW4 := H3.out.2.2.1.trans (S4.below H1.out.2.2 H3.out.2.2.1.size)
          have GPB := hide' (propagate_is owb bb Vb UB HIB.out.1 w4 hUb4)
          have H4 := hide' (And.intro h4 (And.intro hdj4 BW4))
          have HRA := hide' (And.intro Ia (And.intro Ea hra))
          clear h4 hdj4 BW4 S4 hUb4 Ia Ea hra
          go_wp2_with fail
          refine GPB.out.mono ?_
          rintro e w5 ⟨s, vb, owb5, Vb5, rfl, h5, S5, Ib, Eb, hrb⟩
          clear GPB
          obtain ⟨hUa5, _⟩ := H4.out.1.apart S5 (dj_swap H4.out.2.1)
          have BW5 := H4.out.2.2.trans (S5.below H3.out.2.2.2 H4.out.2.2.size)
          have HRB := hide' (And.intro Ib (And.intro Eb hrb))
          have H5 := hide' (And.intro hUa5 (And.intro h5 BW5))
          clear hUa5 h5 BW5 S5 Ib Eb hrb
          have HTR := hide' (show va.tr.length = vb.tr.length from by rw [HRA.out.2.1.tr, HRB.out.2.1.tr, HP.out.2.1])
          have GMA := hide' (fun w' (hb : Below w5.heap.size w5 w') => marks_is owa4 ba Va4 va w' (H5.out.1.later hb) HRA.out.1.rd)
          have GCA := hide' (fun w' (hb : Below w5.heap.size w5 w') => clauses_is owa4 ba Va4 va w' (H5.out.1.later hb) HRA.out.1.rd HRA.out.1.wo.cl (fun m _ => by rw [HRA.out.2.1.lits]; exact HIA.out.2 m) HRA.out.1.li)
          have GMB := hide' (fun w' (hb : Below w5.heap.size w5 w') => marks_is owb5 bb Vb5 vb w' (H5.out.2.1.later hb) HRB.out.1.rd)
          have GCB := hide' (fun w' (hb : Below w5.heap.size w5 w') => clauses_is owb5 bb Vb5 vb w' (H5.out.2.1.later hb) HRB.out.1.rd HRB.out.1.wo.cl (fun m _ => by rw [HRB.out.2.1.lits]; exact HIB.out.2 m) HRB.out.1.li)
          have hra := HRA.out.2.2
          have hrb := HRB.out.2.2
          rcases hra with ⟨rfl, hfa⟩ | ⟨na, rfl, hka⟩
          · skip
            have hs : s = -1 := by rcases hrb with ⟨e, _⟩ | ⟨n9, _, hk9⟩; exact e; exact absurd hk9 (fix_no HRA.out.1 HRB.out.1 HRA.out.2.1 HRB.out.2.1 HP.out.1 (fun L => (HP.out.2.2 L).1) hfa n9)
            have hfb : RestU vb := by rcases hrb with ⟨_, e⟩ | ⟨n9, e, _⟩; exact e; omega
            subst hs
            clear hrb
            have HIN := hide' (fix_in HRB.out.1 HRA.out.1 HRB.out.2.1 HRA.out.2.1 HP.out.1.symm (fun L => (HP.out.2.2 L).2) hfb)
            have HLE := hide' (show va.mks.length = vb.mks.length from Nat.le_antisymm (fix_len HRB.out.1 HRA.out.1 HTR.out.symm HIN.out) (fix_len HRA.out.1 HRB.out.1 HTR.out (fix_in HRA.out.1 HRB.out.1 HRA.out.2.1 HRB.out.2.1 HP.out.1 (fun L => (HP.out.2.2 L).1) hfa)))
            have HRS := hide' (fun n9 (h9 : n9 < va.cl.length) => pl_rest HRA.out.1 hfa h9)
            clear hfa hfb
            have HPL := hide' (show ∀ i, i < va.mks.length → 0 ≤ plV vb.mks (va.mks.getD i default).l from fun i hi => by have h1 := (HRA.out.1.tr.lit i hi).1; exact pl_true HRB.out.1 (by unfold IsL InR at h1 ⊢; rw [← HTR.out]; exact h1) (HIN.out i hi))
            go_wp2_with fail
            refine (GMA.out _ (Below.refl _ _)).mono ?_
            rintro e w6 ⟨g1, rfl, hg1, _, b6⟩
            go_wp2_with fail
            refine (GMB.out _ b6).mono ?_
            rintro e w7 ⟨g2, rfl, hg2, _, b7⟩
            have m1 : MkAt w6 g1 va.mks := ⟨hg1, HRA.out.1.rd.nM⟩
            have m2 : MkAt w7 g2 vb.mks := ⟨hg2, HRB.out.1.rd.nM⟩
            have GS := hide' (SameTrue_is g1 va.mks g2 vb.mks w7 (m1.later b7) m2 HLE.out HPL.out)
            have B7 := b6.trans (b7.mono b6.size)
            replace B7 := hide' B7
            clear hg1 hg2 b6 b7 m1 m2
            go_wp2_with fail
            refine GS.out.mono ?_
            rintro e x7 ⟨rfl, hx7⟩
            rw [hx7]
            clear hx7 x7 GS
            go_wp2_with fail
            refine (GCA.out _ B7.out).mono ?_
            rintro e w8 ⟨ao, fo, rfl, hCo, hfo, b8⟩
            have B8 := B7.out.trans (b8.mono B7.out.size)
            replace B8 := hide' B8
            have HCo := hide' (And.intro hCo hfo)
            clear hCo hfo b8 B7
            go_wp2_with fail
            refine (GMA.out _ B8.out).mono ?_
            rintro e w9 ⟨g3, rfl, hg3, _, b9⟩
            have B9 := B8.out.trans (b9.mono B8.out.size)
            have GR := hide' (Rest_is ao va.cl.length va.cl.length fo g3 va.mks w9 (HCo.out.1.later b9) (fun i hi j hj => by
                have h1 := HCo.out.2 i hi
                rw [h1.1] at hj
                rw [h1.2]
                exact isl_lo HRA.out.1.rd (HRA.out.1.li i hi _ (by simp [List.getD, List.getElem?_eq_getElem hj])))
                ⟨hg3, HRA.out.1.rd.nM⟩ (fun i hi j hj => by
                have h1 := HCo.out.2 i hi
                rw [h1.1] at hj
                rw [h1.1, h1.2]
                exact (HRS.out i hi).2 j hj)
                (fun i hi => by
                have h1 := HCo.out.2 i hi
                rw [h1.1, h1.2]
                exact (HRS.out i hi).1))
            replace B9 := hide' B9
            clear hg3 b9 B8
            go_wp2_with fail
            refine GR.out.mono ?_
            rintro e wa ⟨rfl, ba9⟩
            have hfin := H5.out.2.2.trans ((B9.out.trans (ba9.mono B9.out.size)).mono H5.out.2.2.size)
            go_wp2
            first | exact ⟨rfl, hfin⟩ | (go_ret; exact ⟨rfl, hfin⟩)
          · skip
            obtain ⟨nb, rfl, hkb⟩ : ∃ nb : Nat, s = (nb : Int) ∧ Brk vb nb := by rcases hrb with ⟨_, e⟩ | e; exact absurd hka (fix_no HRB.out.1 HRA.out.1 HRB.out.2.1 HRA.out.2.1 HP.out.1.symm (fun L => (HP.out.2.2 L).2) e na); exact e
            clear hrb
            have e1 : ((na : Int) == -1) = false := by simp
            have e2 : ((nb : Int) == -1) = false := by simp
            have HBA := hide' (And.intro hka (pl_brk HRA.out.1 hka))
            have HBB := hide' (And.intro hkb (pl_brk HRB.out.1 hkb))
            clear hka hkb
            have B0 := hide' (Below.refl w5.heap.size w5)
            go_wp2_with fail
            refine (GCA.out _ B0.out).mono ?_
            rintro e pA ⟨ao, fo, rfl, hCo, hfo, b8⟩
            have B8 := B0.out.trans (b8.mono B0.out.size)
            replace B8 := hide' B8
            have GAT := hide' (at_is ao va.cl.length va.cl.length fo na HBA.out.1.1 pA hCo)
            have HCo := hide' (And.intro hCo hfo)
            clear hCo hfo b8
            go_wp2_with fail
            refine GAT.out.mono ?_
            rintro e x7 ⟨rfl, hx7⟩
            rw [hx7]
            clear hx7 x7 GAT
            go_wp2_with fail
            refine (GMA.out _ B8.out).mono ?_
            rintro e qA ⟨g3, rfl, hg3, _, b9⟩
            have GBR := hide' (show Calls Try.prog 19 #[.slice (fo na).a (fo na).n (fo na).c, .slice (some ⟨g3, 0, none⟩) va.mks.length va.mks.length] qA fun e w' => e = .returned (.bool true) ∧ w' = qA from by
                have h1 := HCo.out.2 na HBA.out.1.1
                have h2 := Broken_is (fo na).a (fo na).n (fo na).c (fo na).g g3 va.mks qA ((HCo.out.1.2.1 na HBA.out.1.1).later b9) (fun j hj => by rw [h1.1] at hj; rw [h1.2]; exact isl_lo HRA.out.1.rd (HRA.out.1.li na HBA.out.1.1 _ (by simp [List.getD, List.getElem?_eq_getElem hj]))) ⟨hg3, HRA.out.1.rd.nM⟩
                have h3 : allN (fun y => decide (0 ≤ plV va.mks (-y))) (fo na).g (fo na).n = true := by rw [h1.1, h1.2]; exact HBA.out.2
                rw [h3] at h2
                exact h2)
            have CA := B8.out.trans (b9.mono B8.out.size)
            replace CA := hide' CA
            clear hg3 b9 B8 HCo
            go_wp2_with fail
            refine GBR.out.mono ?_
            rintro e x8 ⟨rfl, hx8⟩
            rw [hx8]
            clear hx8 x8 GBR
            go_wp2_with fail
            refine (GCB.out _ CA.out).mono ?_
            rintro e pB ⟨ao, fo, rfl, hCo, hfo, b8⟩
            have B8 := CA.out.trans (b8.mono CA.out.size)
            replace B8 := hide' B8
            have GAT := hide' (at_is ao vb.cl.length vb.cl.length fo nb HBB.out.1.1 pB hCo)
            have HCo := hide' (And.intro hCo hfo)
            clear hCo hfo b8
            go_wp2_with fail
            refine GAT.out.mono ?_
            rintro e x7 ⟨rfl, hx7⟩
            rw [hx7]
            clear hx7 x7 GAT
            go_wp2_with fail
            refine (GMB.out _ B8.out).mono ?_
            rintro e qB ⟨g3, rfl, hg3, _, b9⟩
            have GBR := hide' (show Calls Try.prog 19 #[.slice (fo nb).a (fo nb).n (fo nb).c, .slice (some ⟨g3, 0, none⟩) vb.mks.length vb.mks.length] qB fun e w' => e = .returned (.bool true) ∧ w' = qB from by
                have h1 := HCo.out.2 nb HBB.out.1.1
                have h2 := Broken_is (fo nb).a (fo nb).n (fo nb).c (fo nb).g g3 vb.mks qB ((HCo.out.1.2.1 nb HBB.out.1.1).later b9) (fun j hj => by rw [h1.1] at hj; rw [h1.2]; exact isl_lo HRB.out.1.rd (HRB.out.1.li nb HBB.out.1.1 _ (by simp [List.getD, List.getElem?_eq_getElem hj]))) ⟨hg3, HRB.out.1.rd.nM⟩
                have h3 : allN (fun y => decide (0 ≤ plV vb.mks (-y))) (fo nb).g (fo nb).n = true := by rw [h1.1, h1.2]; exact HBB.out.2
                rw [h3] at h2
                exact h2)
            have CB := B8.out.trans (b9.mono B8.out.size)
            replace CB := hide' CB
            clear hg3 b9 B8 HCo
            go_wp2_with fail
            refine GBR.out.mono ?_
            rintro e x8 ⟨rfl, hx8⟩
            rw [hx8]
            clear hx8 x8 GBR
            have hfin := H5.out.2.2.trans (CB.out.mono H5.out.2.2.size)
            go_wp2
            first | exact ⟨rfl, hfin⟩ | (go_ret; exact ⟨rfl, hfin⟩)
    · by_cases h1 : x > 262144
      · skip
        go_enter Try.func6, Try.ntmps6
        have HP := hide' (made_pair (n := 3) (cn := cn) (f := f) (f' := f9) (dn := dn) (d := d) (by omega) HA.out.2.2.1 fun i _ => HF.out i)
        have hl9 : ∀ i, i < cn → (f9 i).n ≤ 17592186044416 := fun i hi => by rw [HF.out]; exact HA.out.2.2.2 _ (by omega)
        have HIA := hide' (And.intro (made_iv (n := 3) (cn := cn) (f := f) (dn := dn) (d := d) (by omega)) (made_lits (n := 3) (cn := cn) (f := f) (dn := dn) (d := d) HA.out.2.2.2))
        have HIB := hide' (And.intro (made_iv (n := 3) (cn := cn) (f := f9) (dn := dn) (d := d) (by omega)) (made_lits (n := 3) (cn := cn) (f := f9) (dn := dn) (d := d) hl9))
        have GA := hide' (made_is 3 (by omega) ca cn cc f da dn dc d HA.out.2.2.2 w HA.out.2.1 HA.out.1)
        have GB := hide' (fun w' (hb : Below w.heap.size w w') a c (hC9 : ClasAt w' a cn f9) => made_is 3 (by omega) a cn c f9 da dn dc d hl9 w' hC9 (HA.out.1.later hb))
        obtain ⟨UA, hUA⟩ : ∃ U, madeU 3 cn f dn d = U := ⟨_, rfl⟩
        obtain ⟨UB, hUB⟩ : ∃ U, madeU 3 cn f9 dn d = U := ⟨_, rfl⟩
        rw [hUA] at GA HP HIA
        rw [hUB] at GB HP HIB
        clear hUA hUB hl9
        go_wp2_with fail
        refine GA.out.mono ?_
        rintro e w1 ⟨ba, owa, Va, rfl, hUa, B1, hoa⟩
        clear GA
        have H1 := hide' (And.intro hUa (And.intro B1 hoa))
        clear hUa B1 hoa
        go_wp2_with fail
        go_loopw [8, 9] (fun vo vi wr => ∃ k : Nat, k ≤ cn ∧ vi = .int .i64 ((cn : Int) - 1 - (k : Int)) ∧ wr.ownsRow w1.heap.size 41 1 vo k (clk f9 k) ∧ Below w1.heap.size w1 wr) (fun _ vi _ => (intOf vi + 1).toNat)
        case atStart => exact ⟨0, Nat.zero_le _, by go_num, World.ownsRow_nil _ _ _ _, Below.refl _ _⟩
        case round =>
          obtain ⟨k, hk, rfl, hO, hB⟩ := hrel
          by_cases hlt : k < cn
          · obtain ⟨bb, off, rfl, hcell⟩ := HA.out.2.1.2.2 (by omega)
            obtain ⟨q, hq⟩ : ∃ q : Nat, (cn : Int) - 1 - (k : Int) = (q : Int) := ⟨cn - 1 - k, by omega⟩
            rw [hq]
            have hqn : q = cn - 1 - k := by omega
            have ck := below_cell hB (below_cell H1.out.2.1 (hcell q (by omega)))
            clear hcell
            have hfk : f q = f9 k := by rw [HF.out, hqn]
            rw [hfk] at ck
            have i0 : (0 : Int) ≤ (q : Int) := by omega
            have i1 : (q : Int) < (cn : Int) := by omega
            have HV := hide' (clk_succ f9 k)
            obtain ⟨C, hCe⟩ : ∃ C, f9 k = C := ⟨_, rfl⟩
            rw [hCe] at ck HV
            clear hCe hfk hqn
            have hq9 := hide' hq
            clear hq
            obtain ⟨xs, hxs⟩ : ∃ xs, clk f9 k = xs := ⟨_, rfl⟩
            rw [hxs] at hO HV
            clear hxs
            obtain ⟨wB, hwB⟩ : ∃ wB, wr.alloc (.cells #[.slice C.a C.n C.c] 41) = wB := ⟨_, rfl⟩
            have hnew := heap_alloc_new wr (.cells #[.slice C.a C.n C.c] 41)
            have b3 := below_alloc (w := wr) (.cells #[.slice C.a C.n C.c] 41)
            rw [hwB] at hnew b3
            have hO3 := own_below hO b3
            have s3 := b3.size
            have s4 := hB.size
            have hbB : w1.heap.size ≤ wB.heap.size := by omega
            have hl1 : k + 1 ≤ maxLen := by have := HM.out; omega
            have hl2 : (k + 1) * 24 ≤ 140737488355328 := by omega
            have hrow := fun j hj => (hO.lt j hj)
            go_wp2_with (at_builtin; (try rw [hwB]); refine wpList_append_lies _ (by rfl) _ _ _ (by rfl) w1.heap.size 41 ki _ 1 24 Try.underlying34 hki hkz hks hkb rfl (by omega) u8 k xs (by rfl) hO3 ⟨wr.heap.size, 0, none⟩ 1 1 [.slice C.a C.n C.c] (by rfl) (by rfl) (World.news_of_block (cs := #[.slice C.a C.n C.c]) (t := 41) (fr := (0, 0)) hnew) (by simp [Value.oneCell']) (by omega) hl1 hl2 hbB wB.heap.size rfl ?_)
            intro gb cap w9 hown hgrow hat hlt9
            have hB9 := hB.trans (b3.mono hB.size)
            have b9 := below_grown hB9.size (fun j hj => (hrow j hj).1) hgrow
            have I1 := hide' (show w9.ownsRow w1.heap.size 41 1 (.slice (some ⟨gb, 0, none⟩) (k + 1) cap) (k + 1) (clk f9 (k + 1)) ∧ Below w1.heap.size w1 w9 from ⟨by rw [HV.out]; exact hown, hB9.trans b9⟩)
            clear hown hgrow hat hlt9 hnew b3 hO3 hB9 b9 hrow s3 s4 hbB hl1 hl2 hO hB hwB HV
            go_wp2
            go_roundw
            case rel => exact ⟨k + 1, by omega, by have hq := hq9.out; first | go_num | (simp; omega), I1.out.1, I1.out.2⟩
            case measure => have hq := hq9.out; simp only [intOf]; omega
          · obtain rfl : k = cn := by omega
            rw [show (k : Int) - 1 - (k : Int) = -1 from by omega]
            obtain ⟨aB, cB, rfl, hC9⟩ := own_clas hO HA.out.2.2.1 fun i hi => by rw [HF.out]; exact ((HA.out.2.1.2.1 _ (by omega)).later H1.out.2.1).later hB
            have GB2 := hide' (GB.out wr (H1.out.2.1.trans (hB.mono H1.out.2.1.size)) aB cB hC9)
            have HB2 := hide' hB
            clear hO hB hC9 GB
            go_wp2_with fail
            refine GB2.out.mono ?_
            rintro e w3 ⟨bb, owb, Vb, rfl, hUb, B3, hob⟩
            clear GB2
            have hUa := (H1.out.1.later HB2.out).later B3
            have hdj : ∀ x, owa x ≠ .oth → owb x = .oth := fun x hx => hob x (by rcases Nat.lt_or_ge x w1.heap.size with e | e; (have := HB2.out.size; omega); exact absurd (H1.out.1.hi x e) hx)
            have BW3 := H1.out.2.1.trans ((HB2.out.trans (B3.mono HB2.out.size)).mono H1.out.2.1.size)
            have GPA := hide' (propagate_is owa ba Va UA HIA.out.1 w3 hUa)
            have H3 := hide' (And.intro hUb (And.intro hdj (And.intro BW3 (show ∀ x, x < w.heap.size → owb x = .oth from fun x hx => hob x (by have h1 := H1.out.2.1.size; have h2 := HB2.out.size; omega)))))
            clear hUb hdj BW3 hob hUa B3
            go_wp2_with fail
            refine GPA.out.mono ?_
            rintro e w4 ⟨r, va, owa4, Va4, rfl, h4, S4, Ia, Ea, hra⟩
            clear GPA
            obtain ⟨hUb4, hdj4⟩ := H3.out.1.apart S4 H3.out.2.1
            have BW4 := H3.out.2.2.1.trans (S4.below H1.out.2.2 H3.out.2.2.1.size)
            have GPB := hide' (propagate_is owb bb Vb UB HIB.out.1 w4 hUb4)
            have H4 := hide' (And.intro h4 (And.intro hdj4 BW4))
            have HRA := hide' (And.intro Ia (And.intro Ea hra))
            clear h4 hdj4 BW4 S4 hUb4 Ia Ea hra
            go_wp2_with fail
            refine GPB.out.mono ?_
            rintro e w5 ⟨s, vb, owb5, Vb5, rfl, h5, S5, Ib, Eb, hrb⟩
            clear GPB
            obtain ⟨hUa5, _⟩ := H4.out.1.apart S5 (dj_swap H4.out.2.1)
            have BW5 := H4.out.2.2.trans (S5.below H3.out.2.2.2 H4.out.2.2.size)
            have HRB := hide' (And.intro Ib (And.intro Eb hrb))
            have H5 := hide' (And.intro hUa5 (And.intro h5 BW5))
            clear hUa5 h5 BW5 S5 Ib Eb hrb
            have HTR := hide' (show va.tr.length = vb.tr.length from by rw [HRA.out.2.1.tr, HRB.out.2.1.tr, HP.out.2.1])
            have GMA := hide' (fun w' (hb : Below w5.heap.size w5 w') => marks_is owa4 ba Va4 va w' (H5.out.1.later hb) HRA.out.1.rd)
            have GCA := hide' (fun w' (hb : Below w5.heap.size w5 w') => clauses_is owa4 ba Va4 va w' (H5.out.1.later hb) HRA.out.1.rd HRA.out.1.wo.cl (fun m _ => by rw [HRA.out.2.1.lits]; exact HIA.out.2 m) HRA.out.1.li)
            have GMB := hide' (fun w' (hb : Below w5.heap.size w5 w') => marks_is owb5 bb Vb5 vb w' (H5.out.2.1.later hb) HRB.out.1.rd)
            have GCB := hide' (fun w' (hb : Below w5.heap.size w5 w') => clauses_is owb5 bb Vb5 vb w' (H5.out.2.1.later hb) HRB.out.1.rd HRB.out.1.wo.cl (fun m _ => by rw [HRB.out.2.1.lits]; exact HIB.out.2 m) HRB.out.1.li)
            have hra := HRA.out.2.2
            have hrb := HRB.out.2.2
            rcases hra with ⟨rfl, hfa⟩ | ⟨na, rfl, hka⟩
            · skip
              have hs : s = -1 := by rcases hrb with ⟨e, _⟩ | ⟨n9, _, hk9⟩; exact e; exact absurd hk9 (fix_no HRA.out.1 HRB.out.1 HRA.out.2.1 HRB.out.2.1 HP.out.1 (fun L => (HP.out.2.2 L).1) hfa n9)
              have hfb : RestU vb := by rcases hrb with ⟨_, e⟩ | ⟨n9, e, _⟩; exact e; omega
              subst hs
              clear hrb
              have HIN := hide' (fix_in HRB.out.1 HRA.out.1 HRB.out.2.1 HRA.out.2.1 HP.out.1.symm (fun L => (HP.out.2.2 L).2) hfb)
              have HLE := hide' (show va.mks.length = vb.mks.length from Nat.le_antisymm (fix_len HRB.out.1 HRA.out.1 HTR.out.symm HIN.out) (fix_len HRA.out.1 HRB.out.1 HTR.out (fix_in HRA.out.1 HRB.out.1 HRA.out.2.1 HRB.out.2.1 HP.out.1 (fun L => (HP.out.2.2 L).1) hfa)))
              have HRS := hide' (fun n9 (h9 : n9 < va.cl.length) => pl_rest HRA.out.1 hfa h9)
              clear hfa hfb
              have HPL := hide' (show ∀ i, i < va.mks.length → 0 ≤ plV vb.mks (va.mks.getD i default).l from fun i hi => by have h1 := (HRA.out.1.tr.lit i hi).1; exact pl_true HRB.out.1 (by unfold IsL InR at h1 ⊢; rw [← HTR.out]; exact h1) (HIN.out i hi))
              go_wp2_with fail
              refine (GMA.out _ (Below.refl _ _)).mono ?_
              rintro e w6 ⟨g1, rfl, hg1, _, b6⟩
              go_wp2_with fail
              refine (GMB.out _ b6).mono ?_
              rintro e w7 ⟨g2, rfl, hg2, _, b7⟩
              have m1 : MkAt w6 g1 va.mks := ⟨hg1, HRA.out.1.rd.nM⟩
              have m2 : MkAt w7 g2 vb.mks := ⟨hg2, HRB.out.1.rd.nM⟩
              have GS := hide' (SameTrue_is g1 va.mks g2 vb.mks w7 (m1.later b7) m2 HLE.out HPL.out)
              have B7 := b6.trans (b7.mono b6.size)
              replace B7 := hide' B7
              clear hg1 hg2 b6 b7 m1 m2
              go_wp2_with fail
              refine GS.out.mono ?_
              rintro e x7 ⟨rfl, hx7⟩
              rw [hx7]
              clear hx7 x7 GS
              go_wp2_with fail
              refine (GCA.out _ B7.out).mono ?_
              rintro e w8 ⟨ao, fo, rfl, hCo, hfo, b8⟩
              have B8 := B7.out.trans (b8.mono B7.out.size)
              replace B8 := hide' B8
              have HCo := hide' (And.intro hCo hfo)
              clear hCo hfo b8 B7
              go_wp2_with fail
              refine (GMA.out _ B8.out).mono ?_
              rintro e w9 ⟨g3, rfl, hg3, _, b9⟩
              have B9 := B8.out.trans (b9.mono B8.out.size)
              have GR := hide' (Rest_is ao va.cl.length va.cl.length fo g3 va.mks w9 (HCo.out.1.later b9) (fun i hi j hj => by
                  have h1 := HCo.out.2 i hi
                  rw [h1.1] at hj
                  rw [h1.2]
                  exact isl_lo HRA.out.1.rd (HRA.out.1.li i hi _ (by simp [List.getD, List.getElem?_eq_getElem hj])))
                  ⟨hg3, HRA.out.1.rd.nM⟩ (fun i hi j hj => by
                  have h1 := HCo.out.2 i hi
                  rw [h1.1] at hj
                  rw [h1.1, h1.2]
                  exact (HRS.out i hi).2 j hj)
                  (fun i hi => by
                  have h1 := HCo.out.2 i hi
                  rw [h1.1, h1.2]
                  exact (HRS.out i hi).1))
              replace B9 := hide' B9
              clear hg3 b9 B8
              go_wp2_with fail
              refine GR.out.mono ?_
              rintro e wa ⟨rfl, ba9⟩
              have hfin := H5.out.2.2.trans ((B9.out.trans (ba9.mono B9.out.size)).mono H5.out.2.2.size)
              go_wp2
              first | exact ⟨rfl, hfin⟩ | (go_ret; exact ⟨rfl, hfin⟩)
            · skip
              obtain ⟨nb, rfl, hkb⟩ : ∃ nb : Nat, s = (nb : Int) ∧ Brk vb nb := by rcases hrb with ⟨_, e⟩ | e; exact absurd hka (fix_no HRB.out.1 HRA.out.1 HRB.out.2.1 HRA.out.2.1 HP.out.1.symm (fun L => (HP.out.2.2 L).2) e na); exact e
              clear hrb
              have e1 : ((na : Int) == -1) = false := by simp
              have e2 : ((nb : Int) == -1) = false := by simp
              have HBA := hide' (And.intro hka (pl_brk HRA.out.1 hka))
              have HBB := hide' (And.intro hkb (pl_brk HRB.out.1 hkb))
              clear hka hkb
              have B0 := hide' (Below.refl w5.heap.size w5)
              go_wp2_with fail
              refine (GCA.out _ B0.out).mono ?_
              rintro e pA ⟨ao, fo, rfl, hCo, hfo, b8⟩
              have B8 := B0.out.trans (b8.mono B0.out.size)
              replace B8 := hide' B8
              have GAT := hide' (at_is ao va.cl.length va.cl.length fo na HBA.out.1.1 pA hCo)
              have HCo := hide' (And.intro hCo hfo)
              clear hCo hfo b8
              go_wp2_with fail
              refine GAT.out.mono ?_
              rintro e x7 ⟨rfl, hx7⟩
              rw [hx7]
              clear hx7 x7 GAT
              go_wp2_with fail
              refine (GMA.out _ B8.out).mono ?_
              rintro e qA ⟨g3, rfl, hg3, _, b9⟩
              have GBR := hide' (show Calls Try.prog 19 #[.slice (fo na).a (fo na).n (fo na).c, .slice (some ⟨g3, 0, none⟩) va.mks.length va.mks.length] qA fun e w' => e = .returned (.bool true) ∧ w' = qA from by
                  have h1 := HCo.out.2 na HBA.out.1.1
                  have h2 := Broken_is (fo na).a (fo na).n (fo na).c (fo na).g g3 va.mks qA ((HCo.out.1.2.1 na HBA.out.1.1).later b9) (fun j hj => by rw [h1.1] at hj; rw [h1.2]; exact isl_lo HRA.out.1.rd (HRA.out.1.li na HBA.out.1.1 _ (by simp [List.getD, List.getElem?_eq_getElem hj]))) ⟨hg3, HRA.out.1.rd.nM⟩
                  have h3 : allN (fun y => decide (0 ≤ plV va.mks (-y))) (fo na).g (fo na).n = true := by rw [h1.1, h1.2]; exact HBA.out.2
                  rw [h3] at h2
                  exact h2)
              have CA := B8.out.trans (b9.mono B8.out.size)
              replace CA := hide' CA
              clear hg3 b9 B8 HCo
              go_wp2_with fail
              refine GBR.out.mono ?_
              rintro e x8 ⟨rfl, hx8⟩
              rw [hx8]
              clear hx8 x8 GBR
              go_wp2_with fail
              refine (GCB.out _ CA.out).mono ?_
              rintro e pB ⟨ao, fo, rfl, hCo, hfo, b8⟩
              have B8 := CA.out.trans (b8.mono CA.out.size)
              replace B8 := hide' B8
              have GAT := hide' (at_is ao vb.cl.length vb.cl.length fo nb HBB.out.1.1 pB hCo)
              have HCo := hide' (And.intro hCo hfo)
              clear hCo hfo b8
              go_wp2_with fail
              refine GAT.out.mono ?_
              rintro e x7 ⟨rfl, hx7⟩
              rw [hx7]
              clear hx7 x7 GAT
              go_wp2_with fail
              refine (GMB.out _ B8.out).mono ?_
              rintro e qB ⟨g3, rfl, hg3, _, b9⟩
              have GBR := hide' (show Calls Try.prog 19 #[.slice (fo nb).a (fo nb).n (fo nb).c, .slice (some ⟨g3, 0, none⟩) vb.mks.length vb.mks.length] qB fun e w' => e = .returned (.bool true) ∧ w' = qB from by
                  have h1 := HCo.out.2 nb HBB.out.1.1
                  have h2 := Broken_is (fo nb).a (fo nb).n (fo nb).c (fo nb).g g3 vb.mks qB ((HCo.out.1.2.1 nb HBB.out.1.1).later b9) (fun j hj => by rw [h1.1] at hj; rw [h1.2]; exact isl_lo HRB.out.1.rd (HRB.out.1.li nb HBB.out.1.1 _ (by simp [List.getD, List.getElem?_eq_getElem hj]))) ⟨hg3, HRB.out.1.rd.nM⟩
                  have h3 : allN (fun y => decide (0 ≤ plV vb.mks (-y))) (fo nb).g (fo nb).n = true := by rw [h1.1, h1.2]; exact HBB.out.2
                  rw [h3] at h2
                  exact h2)
              have CB := B8.out.trans (b9.mono B8.out.size)
              replace CB := hide' CB
              clear hg3 b9 B8 HCo
              go_wp2_with fail
              refine GBR.out.mono ?_
              rintro e x8 ⟨rfl, hx8⟩
              rw [hx8]
              clear hx8 x8 GBR
              have hfin := H5.out.2.2.trans (CB.out.mono H5.out.2.2.size)
              go_wp2
              first | exact ⟨rfl, hfin⟩ | (go_ret; exact ⟨rfl, hfin⟩)
      · obtain ⟨nn, rfl⟩ : ∃ nn : Nat, x = (nn : Int) := ⟨x.toNat, by omega⟩
        go_enter Try.func6, Try.ntmps6
        have HP := hide' (made_pair (n := nn) (cn := cn) (f := f) (f' := f9) (dn := dn) (d := d) (by omega) HA.out.2.2.1 fun i _ => HF.out i)
        have hl9 : ∀ i, i < cn → (f9 i).n ≤ 17592186044416 := fun i hi => by rw [HF.out]; exact HA.out.2.2.2 _ (by omega)
        have HIA := hide' (And.intro (made_iv (n := nn) (cn := cn) (f := f) (dn := dn) (d := d) (by omega)) (made_lits (n := nn) (cn := cn) (f := f) (dn := dn) (d := d) HA.out.2.2.2))
        have HIB := hide' (And.intro (made_iv (n := nn) (cn := cn) (f := f9) (dn := dn) (d := d) (by omega)) (made_lits (n := nn) (cn := cn) (f := f9) (dn := dn) (d := d) hl9))
        have GA := hide' (made_is nn (by omega) ca cn cc f da dn dc d HA.out.2.2.2 w HA.out.2.1 HA.out.1)
        have GB := hide' (fun w' (hb : Below w.heap.size w w') a c (hC9 : ClasAt w' a cn f9) => made_is nn (by omega) a cn c f9 da dn dc d hl9 w' hC9 (HA.out.1.later hb))
        obtain ⟨UA, hUA⟩ : ∃ U, madeU nn cn f dn d = U := ⟨_, rfl⟩
        obtain ⟨UB, hUB⟩ : ∃ U, madeU nn cn f9 dn d = U := ⟨_, rfl⟩
        rw [hUA] at GA HP HIA
        rw [hUB] at GB HP HIB
        clear hUA hUB hl9
        go_wp2_with fail
        refine GA.out.mono ?_
        rintro e w1 ⟨ba, owa, Va, rfl, hUa, B1, hoa⟩
        clear GA
        have H1 := hide' (And.intro hUa (And.intro B1 hoa))
        clear hUa B1 hoa
        go_wp2_with fail
        go_loopw [8, 9] (fun vo vi wr => ∃ k : Nat, k ≤ cn ∧ vi = .int .i64 ((cn : Int) - 1 - (k : Int)) ∧ wr.ownsRow w1.heap.size 41 1 vo k (clk f9 k) ∧ Below w1.heap.size w1 wr) (fun _ vi _ => (intOf vi + 1).toNat)
        case atStart => exact ⟨0, Nat.zero_le _, by go_num, World.ownsRow_nil _ _ _ _, Below.refl _ _⟩
        case round =>
          obtain ⟨k, hk, rfl, hO, hB⟩ := hrel
          by_cases hlt : k < cn
          · obtain ⟨bb, off, rfl, hcell⟩ := HA.out.2.1.2.2 (by omega)
            obtain ⟨q, hq⟩ : ∃ q : Nat, (cn : Int) - 1 - (k : Int) = (q : Int) := ⟨cn - 1 - k, by omega⟩
            rw [hq]
            have hqn : q = cn - 1 - k := by omega
            have ck := below_cell hB (below_cell H1.out.2.1 (hcell q (by omega)))
            clear hcell
            have hfk : f q = f9 k := by rw [HF.out, hqn]
            rw [hfk] at ck
            have i0 : (0 : Int) ≤ (q : Int) := by omega
            have i1 : (q : Int) < (cn : Int) := by omega
            have HV := hide' (clk_succ f9 k)
            obtain ⟨C, hCe⟩ : ∃ C, f9 k = C := ⟨_, rfl⟩
            rw [hCe] at ck HV
            clear hCe hfk hqn
            have hq9 := hide' hq
            clear hq
            obtain ⟨xs, hxs⟩ : ∃ xs, clk f9 k = xs := ⟨_, rfl⟩
            rw [hxs] at hO HV
            clear hxs
            obtain ⟨wB, hwB⟩ : ∃ wB, wr.alloc (.cells #[.slice C.a C.n C.c] 41) = wB := ⟨_, rfl⟩
            have hnew := heap_alloc_new wr (.cells #[.slice C.a C.n C.c] 41)
            have b3 := below_alloc (w := wr) (.cells #[.slice C.a C.n C.c] 41)
            rw [hwB] at hnew b3
            have hO3 := own_below hO b3
            have s3 := b3.size
            have s4 := hB.size
            have hbB : w1.heap.size ≤ wB.heap.size := by omega
            have hl1 : k + 1 ≤ maxLen := by have := HM.out; omega
            have hl2 : (k + 1) * 24 ≤ 140737488355328 := by omega
            have hrow := fun j hj => (hO.lt j hj)
            go_wp2_with (at_builtin; (try rw [hwB]); refine wpList_append_lies _ (by rfl) _ _ _ (by rfl) w1.heap.size 41 ki _ 1 24 Try.underlying34 hki hkz hks hkb rfl (by omega) u8 k xs (by rfl) hO3 ⟨wr.heap.size, 0, none⟩ 1 1 [.slice C.a C.n C.c] (by rfl) (by rfl) (World.news_of_block (cs := #[.slice C.a C.n C.c]) (t := 41) (fr := (0, 0)) hnew) (by simp [Value.oneCell']) (by omega) hl1 hl2 hbB wB.heap.size rfl ?_)
            intro gb cap w9 hown hgrow hat hlt9
            have hB9 := hB.trans (b3.mono hB.size)
            have b9 := below_grown hB9.size (fun j hj => (hrow j hj).1) hgrow
            have I1 := hide' (show w9.ownsRow w1.heap.size 41 1 (.slice (some ⟨gb, 0, none⟩) (k + 1) cap) (k + 1) (clk f9 (k + 1)) ∧ Below w1.heap.size w1 w9 from ⟨by rw [HV.out]; exact hown, hB9.trans b9⟩)
            clear hown hgrow hat hlt9 hnew b3 hO3 hB9 b9 hrow s3 s4 hbB hl1 hl2 hO hB hwB HV
            go_wp2
            go_roundw
            case rel => exact ⟨k + 1, by omega, by have hq := hq9.out; first | go_num | (simp; omega), I1.out.1, I1.out.2⟩
            case measure => have hq := hq9.out; simp only [intOf]; omega
          · obtain rfl : k = cn := by omega
            rw [show (k : Int) - 1 - (k : Int) = -1 from by omega]
            obtain ⟨aB, cB, rfl, hC9⟩ := own_clas hO HA.out.2.2.1 fun i hi => by rw [HF.out]; exact ((HA.out.2.1.2.1 _ (by omega)).later H1.out.2.1).later hB
            have GB2 := hide' (GB.out wr (H1.out.2.1.trans (hB.mono H1.out.2.1.size)) aB cB hC9)
            have HB2 := hide' hB
            clear hO hB hC9 GB
            go_wp2_with fail
            refine GB2.out.mono ?_
            rintro e w3 ⟨bb, owb, Vb, rfl, hUb, B3, hob⟩
            clear GB2
            have hUa := (H1.out.1.later HB2.out).later B3
            have hdj : ∀ x, owa x ≠ .oth → owb x = .oth := fun x hx => hob x (by rcases Nat.lt_or_ge x w1.heap.size with e | e; (have := HB2.out.size; omega); exact absurd (H1.out.1.hi x e) hx)
            have BW3 := H1.out.2.1.trans ((HB2.out.trans (B3.mono HB2.out.size)).mono H1.out.2.1.size)
            have GPA := hide' (propagate_is owa ba Va UA HIA.out.1 w3 hUa)
            have H3 := hide' (And.intro hUb (And.intro hdj (And.intro BW3 (show ∀ x, x < w.heap.size → owb x = .oth from fun x hx => hob x (by have h1 := H1.out.2.1.size; have h2 := HB2.out.size; omega)))))
            clear hUb hdj BW3 hob hUa B3
            go_wp2_with fail
            refine GPA.out.mono ?_
            rintro e w4 ⟨r, va, owa4, Va4, rfl, h4, S4, Ia, Ea, hra⟩
            clear GPA
            obtain ⟨hUb4, hdj4⟩ := H3.out.1.apart S4 H3.out.2.1
            have BW4 := H3.out.2.2.1.trans (S4.below H1.out.2.2 H3.out.2.2.1.size)
            have GPB := hide' (propagate_is owb bb Vb UB HIB.out.1 w4 hUb4)
            have H4 := hide' (And.intro h4 (And.intro hdj4 BW4))
            have HRA := hide' (And.intro Ia (And.intro Ea hra))
            clear h4 hdj4 BW4 S4 hUb4 Ia Ea hra
            go_wp2_with fail
            refine GPB.out.mono ?_
            rintro e w5 ⟨s, vb, owb5, Vb5, rfl, h5, S5, Ib, Eb, hrb⟩
            clear GPB
            obtain ⟨hUa5, _⟩ := H4.out.1.apart S5 (dj_swap H4.out.2.1)
            have BW5 := H4.out.2.2.trans (S5.below H3.out.2.2.2 H4.out.2.2.size)
            have HRB := hide' (And.intro Ib (And.intro Eb hrb))
            have H5 := hide' (And.intro hUa5 (And.intro h5 BW5))
            clear hUa5 h5 BW5 S5 Ib Eb hrb
            have HTR := hide' (show va.tr.length = vb.tr.length from by rw [HRA.out.2.1.tr, HRB.out.2.1.tr, HP.out.2.1])
            have GMA := hide' (fun w' (hb : Below w5.heap.size w5 w') => marks_is owa4 ba Va4 va w' (H5.out.1.later hb) HRA.out.1.rd)
            have GCA := hide' (fun w' (hb : Below w5.heap.size w5 w') => clauses_is owa4 ba Va4 va w' (H5.out.1.later hb) HRA.out.1.rd HRA.out.1.wo.cl (fun m _ => by rw [HRA.out.2.1.lits]; exact HIA.out.2 m) HRA.out.1.li)
            have GMB := hide' (fun w' (hb : Below w5.heap.size w5 w') => marks_is owb5 bb Vb5 vb w' (H5.out.2.1.later hb) HRB.out.1.rd)
            have GCB := hide' (fun w' (hb : Below w5.heap.size w5 w') => clauses_is owb5 bb Vb5 vb w' (H5.out.2.1.later hb) HRB.out.1.rd HRB.out.1.wo.cl (fun m _ => by rw [HRB.out.2.1.lits]; exact HIB.out.2 m) HRB.out.1.li)
            have hra := HRA.out.2.2
            have hrb := HRB.out.2.2
            rcases hra with ⟨rfl, hfa⟩ | ⟨na, rfl, hka⟩
            · skip
              have hs : s = -1 := by rcases hrb with ⟨e, _⟩ | ⟨n9, _, hk9⟩; exact e; exact absurd hk9 (fix_no HRA.out.1 HRB.out.1 HRA.out.2.1 HRB.out.2.1 HP.out.1 (fun L => (HP.out.2.2 L).1) hfa n9)
              have hfb : RestU vb := by rcases hrb with ⟨_, e⟩ | ⟨n9, e, _⟩; exact e; omega
              subst hs
              clear hrb
              have HIN := hide' (fix_in HRB.out.1 HRA.out.1 HRB.out.2.1 HRA.out.2.1 HP.out.1.symm (fun L => (HP.out.2.2 L).2) hfb)
              have HLE := hide' (show va.mks.length = vb.mks.length from Nat.le_antisymm (fix_len HRB.out.1 HRA.out.1 HTR.out.symm HIN.out) (fix_len HRA.out.1 HRB.out.1 HTR.out (fix_in HRA.out.1 HRB.out.1 HRA.out.2.1 HRB.out.2.1 HP.out.1 (fun L => (HP.out.2.2 L).1) hfa)))
              have HRS := hide' (fun n9 (h9 : n9 < va.cl.length) => pl_rest HRA.out.1 hfa h9)
              clear hfa hfb
              have HPL := hide' (show ∀ i, i < va.mks.length → 0 ≤ plV vb.mks (va.mks.getD i default).l from fun i hi => by have h1 := (HRA.out.1.tr.lit i hi).1; exact pl_true HRB.out.1 (by unfold IsL InR at h1 ⊢; rw [← HTR.out]; exact h1) (HIN.out i hi))
              go_wp2_with fail
              refine (GMA.out _ (Below.refl _ _)).mono ?_
              rintro e w6 ⟨g1, rfl, hg1, _, b6⟩
              go_wp2_with fail
              refine (GMB.out _ b6).mono ?_
              rintro e w7 ⟨g2, rfl, hg2, _, b7⟩
              have m1 : MkAt w6 g1 va.mks := ⟨hg1, HRA.out.1.rd.nM⟩
              have m2 : MkAt w7 g2 vb.mks := ⟨hg2, HRB.out.1.rd.nM⟩
              have GS := hide' (SameTrue_is g1 va.mks g2 vb.mks w7 (m1.later b7) m2 HLE.out HPL.out)
              have B7 := b6.trans (b7.mono b6.size)
              replace B7 := hide' B7
              clear hg1 hg2 b6 b7 m1 m2
              go_wp2_with fail
              refine GS.out.mono ?_
              rintro e x7 ⟨rfl, hx7⟩
              rw [hx7]
              clear hx7 x7 GS
              go_wp2_with fail
              refine (GCA.out _ B7.out).mono ?_
              rintro e w8 ⟨ao, fo, rfl, hCo, hfo, b8⟩
              have B8 := B7.out.trans (b8.mono B7.out.size)
              replace B8 := hide' B8
              have HCo := hide' (And.intro hCo hfo)
              clear hCo hfo b8 B7
              go_wp2_with fail
              refine (GMA.out _ B8.out).mono ?_
              rintro e w9 ⟨g3, rfl, hg3, _, b9⟩
              have B9 := B8.out.trans (b9.mono B8.out.size)
              have GR := hide' (Rest_is ao va.cl.length va.cl.length fo g3 va.mks w9 (HCo.out.1.later b9) (fun i hi j hj => by
                  have h1 := HCo.out.2 i hi
                  rw [h1.1] at hj
                  rw [h1.2]
                  exact isl_lo HRA.out.1.rd (HRA.out.1.li i hi _ (by simp [List.getD, List.getElem?_eq_getElem hj])))
                  ⟨hg3, HRA.out.1.rd.nM⟩ (fun i hi j hj => by
                  have h1 := HCo.out.2 i hi
                  rw [h1.1] at hj
                  rw [h1.1, h1.2]
                  exact (HRS.out i hi).2 j hj)
                  (fun i hi => by
                  have h1 := HCo.out.2 i hi
                  rw [h1.1, h1.2]
                  exact (HRS.out i hi).1))
              replace B9 := hide' B9
              clear hg3 b9 B8
              go_wp2_with fail
              refine GR.out.mono ?_
              rintro e wa ⟨rfl, ba9⟩
              have hfin := H5.out.2.2.trans ((B9.out.trans (ba9.mono B9.out.size)).mono H5.out.2.2.size)
              go_wp2
              first | exact ⟨rfl, hfin⟩ | (go_ret; exact ⟨rfl, hfin⟩)
            · skip
              obtain ⟨nb, rfl, hkb⟩ : ∃ nb : Nat, s = (nb : Int) ∧ Brk vb nb := by rcases hrb with ⟨_, e⟩ | e; exact absurd hka (fix_no HRB.out.1 HRA.out.1 HRB.out.2.1 HRA.out.2.1 HP.out.1.symm (fun L => (HP.out.2.2 L).2) e na); exact e
              clear hrb
              have e1 : ((na : Int) == -1) = false := by simp
              have e2 : ((nb : Int) == -1) = false := by simp
              have HBA := hide' (And.intro hka (pl_brk HRA.out.1 hka))
              have HBB := hide' (And.intro hkb (pl_brk HRB.out.1 hkb))
              clear hka hkb
              have B0 := hide' (Below.refl w5.heap.size w5)
              go_wp2_with fail
              refine (GCA.out _ B0.out).mono ?_
              rintro e pA ⟨ao, fo, rfl, hCo, hfo, b8⟩
              have B8 := B0.out.trans (b8.mono B0.out.size)
              replace B8 := hide' B8
              have GAT := hide' (at_is ao va.cl.length va.cl.length fo na HBA.out.1.1 pA hCo)
              have HCo := hide' (And.intro hCo hfo)
              clear hCo hfo b8
              go_wp2_with fail
              refine GAT.out.mono ?_
              rintro e x7 ⟨rfl, hx7⟩
              rw [hx7]
              clear hx7 x7 GAT
              go_wp2_with fail
              refine (GMA.out _ B8.out).mono ?_
              rintro e qA ⟨g3, rfl, hg3, _, b9⟩
              have GBR := hide' (show Calls Try.prog 19 #[.slice (fo na).a (fo na).n (fo na).c, .slice (some ⟨g3, 0, none⟩) va.mks.length va.mks.length] qA fun e w' => e = .returned (.bool true) ∧ w' = qA from by
                  have h1 := HCo.out.2 na HBA.out.1.1
                  have h2 := Broken_is (fo na).a (fo na).n (fo na).c (fo na).g g3 va.mks qA ((HCo.out.1.2.1 na HBA.out.1.1).later b9) (fun j hj => by rw [h1.1] at hj; rw [h1.2]; exact isl_lo HRA.out.1.rd (HRA.out.1.li na HBA.out.1.1 _ (by simp [List.getD, List.getElem?_eq_getElem hj]))) ⟨hg3, HRA.out.1.rd.nM⟩
                  have h3 : allN (fun y => decide (0 ≤ plV va.mks (-y))) (fo na).g (fo na).n = true := by rw [h1.1, h1.2]; exact HBA.out.2
                  rw [h3] at h2
                  exact h2)
              have CA := B8.out.trans (b9.mono B8.out.size)
              replace CA := hide' CA
              clear hg3 b9 B8 HCo
              go_wp2_with fail
              refine GBR.out.mono ?_
              rintro e x8 ⟨rfl, hx8⟩
              rw [hx8]
              clear hx8 x8 GBR
              go_wp2_with fail
              refine (GCB.out _ CA.out).mono ?_
              rintro e pB ⟨ao, fo, rfl, hCo, hfo, b8⟩
              have B8 := CA.out.trans (b8.mono CA.out.size)
              replace B8 := hide' B8
              have GAT := hide' (at_is ao vb.cl.length vb.cl.length fo nb HBB.out.1.1 pB hCo)
              have HCo := hide' (And.intro hCo hfo)
              clear hCo hfo b8
              go_wp2_with fail
              refine GAT.out.mono ?_
              rintro e x7 ⟨rfl, hx7⟩
              rw [hx7]
              clear hx7 x7 GAT
              go_wp2_with fail
              refine (GMB.out _ B8.out).mono ?_
              rintro e qB ⟨g3, rfl, hg3, _, b9⟩
              have GBR := hide' (show Calls Try.prog 19 #[.slice (fo nb).a (fo nb).n (fo nb).c, .slice (some ⟨g3, 0, none⟩) vb.mks.length vb.mks.length] qB fun e w' => e = .returned (.bool true) ∧ w' = qB from by
                  have h1 := HCo.out.2 nb HBB.out.1.1
                  have h2 := Broken_is (fo nb).a (fo nb).n (fo nb).c (fo nb).g g3 vb.mks qB ((HCo.out.1.2.1 nb HBB.out.1.1).later b9) (fun j hj => by rw [h1.1] at hj; rw [h1.2]; exact isl_lo HRB.out.1.rd (HRB.out.1.li nb HBB.out.1.1 _ (by simp [List.getD, List.getElem?_eq_getElem hj]))) ⟨hg3, HRB.out.1.rd.nM⟩
                  have h3 : allN (fun y => decide (0 ≤ plV vb.mks (-y))) (fo nb).g (fo nb).n = true := by rw [h1.1, h1.2]; exact HBB.out.2
                  rw [h3] at h2
                  exact h2)
              have CB := B8.out.trans (b9.mono B8.out.size)
              replace CB := hide' CB
              clear hg3 b9 B8 HCo
              go_wp2_with fail
              refine GBR.out.mono ?_
              rintro e x8 ⟨rfl, hx8⟩
              rw [hx8]
              clear hx8 x8 GBR
              have hfin := H5.out.2.2.trans (CB.out.mono H5.out.2.2.size)
              go_wp2
              first | exact ⟨rfl, hfin⟩ | (go_ret; exact ⟨rfl, hfin⟩)
  · obtain rfl : cn = cm := by omega
    have i9 : ¬ (cn : Int) > 1048576 := by omega
    clear hcn0 hbig
    by_cases h0 : x < 0
    · skip
      go_enter Try.func6, Try.ntmps6
      have HP := hide' (made_pair (n := 3) (cn := cn) (f := f) (f' := f9) (dn := dn) (d := d) (by omega) HA.out.2.2.1 fun i _ => HF.out i)
      have hl9 : ∀ i, i < cn → (f9 i).n ≤ 17592186044416 := fun i hi => by rw [HF.out]; exact HA.out.2.2.2 _ (by omega)
      have HIA := hide' (And.intro (made_iv (n := 3) (cn := cn) (f := f) (dn := dn) (d := d) (by omega)) (made_lits (n := 3) (cn := cn) (f := f) (dn := dn) (d := d) HA.out.2.2.2))
      have HIB := hide' (And.intro (made_iv (n := 3) (cn := cn) (f := f9) (dn := dn) (d := d) (by omega)) (made_lits (n := 3) (cn := cn) (f := f9) (dn := dn) (d := d) hl9))
      have GA := hide' (made_is 3 (by omega) ca cn cc f da dn dc d HA.out.2.2.2 w HA.out.2.1 HA.out.1)
      have GB := hide' (fun w' (hb : Below w.heap.size w w') a c (hC9 : ClasAt w' a cn f9) => made_is 3 (by omega) a cn c f9 da dn dc d hl9 w' hC9 (HA.out.1.later hb))
      obtain ⟨UA, hUA⟩ : ∃ U, madeU 3 cn f dn d = U := ⟨_, rfl⟩
      obtain ⟨UB, hUB⟩ : ∃ U, madeU 3 cn f9 dn d = U := ⟨_, rfl⟩
      rw [hUA] at GA HP HIA
      rw [hUB] at GB HP HIB
      clear hUA hUB hl9
      go_wp2_with fail
      refine GA.out.mono ?_
      rintro e w1 ⟨ba, owa, Va, rfl, hUa, B1, hoa⟩
      clear GA
      have H1 := hide' (And.intro hUa (And.intro B1 hoa))
      clear hUa B1 hoa
      go_wp2_with fail
      go_loopw [8, 9] (fun vo vi wr => ∃ k : Nat, k ≤ cn ∧ vi = .int .i64 ((cn : Int) - 1 - (k : Int)) ∧ wr.ownsRow w1.heap.size 41 1 vo k (clk f9 k) ∧ Below w1.heap.size w1 wr) (fun _ vi _ => (intOf vi + 1).toNat)
      case atStart => exact ⟨0, Nat.zero_le _, by go_num, World.ownsRow_nil _ _ _ _, Below.refl _ _⟩
      case round =>
        obtain ⟨k, hk, rfl, hO, hB⟩ := hrel
        by_cases hlt : k < cn
        · obtain ⟨bb, off, rfl, hcell⟩ := HA.out.2.1.2.2 (by omega)
          obtain ⟨q, hq⟩ : ∃ q : Nat, (cn : Int) - 1 - (k : Int) = (q : Int) := ⟨cn - 1 - k, by omega⟩
          rw [hq]
          have hqn : q = cn - 1 - k := by omega
          have ck := below_cell hB (below_cell H1.out.2.1 (hcell q (by omega)))
          clear hcell
          have hfk : f q = f9 k := by rw [HF.out, hqn]
          rw [hfk] at ck
          have i0 : (0 : Int) ≤ (q : Int) := by omega
          have i1 : (q : Int) < (cn : Int) := by omega
          have HV := hide' (clk_succ f9 k)
          obtain ⟨C, hCe⟩ : ∃ C, f9 k = C := ⟨_, rfl⟩
          rw [hCe] at ck HV
          clear hCe hfk hqn
          have hq9 := hide' hq
          clear hq
          obtain ⟨xs, hxs⟩ : ∃ xs, clk f9 k = xs := ⟨_, rfl⟩
          rw [hxs] at hO HV
          clear hxs
          obtain ⟨wB, hwB⟩ : ∃ wB, wr.alloc (.cells #[.slice C.a C.n C.c] 41) = wB := ⟨_, rfl⟩
          have hnew := heap_alloc_new wr (.cells #[.slice C.a C.n C.c] 41)
          have b3 := below_alloc (w := wr) (.cells #[.slice C.a C.n C.c] 41)
          rw [hwB] at hnew b3
          have hO3 := own_below hO b3
          have s3 := b3.size
          have s4 := hB.size
          have hbB : w1.heap.size ≤ wB.heap.size := by omega
          have hl1 : k + 1 ≤ maxLen := by have := HM.out; omega
          have hl2 : (k + 1) * 24 ≤ 140737488355328 := by omega
          have hrow := fun j hj => (hO.lt j hj)
          go_wp2_with (at_builtin; (try rw [hwB]); refine wpList_append_lies _ (by rfl) _ _ _ (by rfl) w1.heap.size 41 ki _ 1 24 Try.underlying34 hki hkz hks hkb rfl (by omega) u8 k xs (by rfl) hO3 ⟨wr.heap.size, 0, none⟩ 1 1 [.slice C.a C.n C.c] (by rfl) (by rfl) (World.news_of_block (cs := #[.slice C.a C.n C.c]) (t := 41) (fr := (0, 0)) hnew) (by simp [Value.oneCell']) (by omega) hl1 hl2 hbB wB.heap.size rfl ?_)
          intro gb cap w9 hown hgrow hat hlt9
          have hB9 := hB.trans (b3.mono hB.size)
          have b9 := below_grown hB9.size (fun j hj => (hrow j hj).1) hgrow
          have I1 := hide' (show w9.ownsRow w1.heap.size 41 1 (.slice (some ⟨gb, 0, none⟩) (k + 1) cap) (k + 1) (clk f9 (k + 1)) ∧ Below w1.heap.size w1 w9 from ⟨by rw [HV.out]; exact hown, hB9.trans b9⟩)
          clear hown hgrow hat hlt9 hnew b3 hO3 hB9 b9 hrow s3 s4 hbB hl1 hl2 hO hB hwB HV
          go_wp2
          go_roundw
          case rel => exact ⟨k + 1, by omega, by have hq := hq9.out; first | go_num | (simp; omega), I1.out.1, I1.out.2⟩
          case measure => have hq := hq9.out; simp only [intOf]; omega
        · obtain rfl : k = cn := by omega
          rw [show (k : Int) - 1 - (k : Int) = -1 from by omega]
          obtain ⟨aB, cB, rfl, hC9⟩ := own_clas hO HA.out.2.2.1 fun i hi => by rw [HF.out]; exact ((HA.out.2.1.2.1 _ (by omega)).later H1.out.2.1).later hB
          have GB2 := hide' (GB.out wr (H1.out.2.1.trans (hB.mono H1.out.2.1.size)) aB cB hC9)
          have HB2 := hide' hB
          clear hO hB hC9 GB
          go_wp2_with fail
          refine GB2.out.mono ?_
          rintro e w3 ⟨bb, owb, Vb, rfl, hUb, B3, hob⟩
          clear GB2
          have hUa := (H1.out.1.later HB2.out).later B3
          have hdj : ∀ x, owa x ≠ .oth → owb x = .oth := fun x hx => hob x (by rcases Nat.lt_or_ge x w1.heap.size with e | e; (have := HB2.out.size; omega); exact absurd (H1.out.1.hi x e) hx)
          have BW3 := H1.out.2.1.trans ((HB2.out.trans (B3.mono HB2.out.size)).mono H1.out.2.1.size)
          have GPA := hide' (propagate_is owa ba Va UA HIA.out.1 w3 hUa)
          have H3 := hide' (And.intro hUb (And.intro hdj (And.intro BW3 (show ∀ x, x < w.heap.size → owb x = .oth from fun x hx => hob x (by have h1 := H1.out.2.1.size; have h2 := HB2.out.size; omega)))))
          clear hUb hdj BW3 hob hUa B3
          go_wp2_with fail
          refine GPA.out.mono ?_
          rintro e w4 ⟨r, va, owa4, Va4, rfl, h4, S4, Ia, Ea, hra⟩
          clear GPA
          obtain ⟨hUb4, hdj4⟩ := H3.out.1.apart S4 H3.out.2.1
          have BW4 := H3.out.2.2.1.trans (S4.below H1.out.2.2 H3.out.2.2.1.size)
          have GPB := hide' (propagate_is owb bb Vb UB HIB.out.1 w4 hUb4)
          have H4 := hide' (And.intro h4 (And.intro hdj4 BW4))
          have HRA := hide' (And.intro Ia (And.intro Ea hra))
          clear h4 hdj4 BW4 S4 hUb4 Ia Ea hra
          go_wp2_with fail
          refine GPB.out.mono ?_
          rintro e w5 ⟨s, vb, owb5, Vb5, rfl, h5, S5, Ib, Eb, hrb⟩
          clear GPB
          obtain ⟨hUa5, _⟩ := H4.out.1.apart S5 (dj_swap H4.out.2.1)
          have BW5 := H4.out.2.2.trans (S5.below H3.out.2.2.2 H4.out.2.2.size)
          have HRB := hide' (And.intro Ib (And.intro Eb hrb))
          have H5 := hide' (And.intro hUa5 (And.intro h5 BW5))
          clear hUa5 h5 BW5 S5 Ib Eb hrb
          have HTR := hide' (show va.tr.length = vb.tr.length from by rw [HRA.out.2.1.tr, HRB.out.2.1.tr, HP.out.2.1])
          have GMA := hide' (fun w' (hb : Below w5.heap.size w5 w') => marks_is owa4 ba Va4 va w' (H5.out.1.later hb) HRA.out.1.rd)
          have GCA := hide' (fun w' (hb : Below w5.heap.size w5 w') => clauses_is owa4 ba Va4 va w' (H5.out.1.later hb) HRA.out.1.rd HRA.out.1.wo.cl (fun m _ => by rw [HRA.out.2.1.lits]; exact HIA.out.2 m) HRA.out.1.li)
          have GMB := hide' (fun w' (hb : Below w5.heap.size w5 w') => marks_is owb5 bb Vb5 vb w' (H5.out.2.1.later hb) HRB.out.1.rd)
          have GCB := hide' (fun w' (hb : Below w5.heap.size w5 w') => clauses_is owb5 bb Vb5 vb w' (H5.out.2.1.later hb) HRB.out.1.rd HRB.out.1.wo.cl (fun m _ => by rw [HRB.out.2.1.lits]; exact HIB.out.2 m) HRB.out.1.li)
          have hra := HRA.out.2.2
          have hrb := HRB.out.2.2
          rcases hra with ⟨rfl, hfa⟩ | ⟨na, rfl, hka⟩
          · skip
            have hs : s = -1 := by rcases hrb with ⟨e, _⟩ | ⟨n9, _, hk9⟩; exact e; exact absurd hk9 (fix_no HRA.out.1 HRB.out.1 HRA.out.2.1 HRB.out.2.1 HP.out.1 (fun L => (HP.out.2.2 L).1) hfa n9)
            have hfb : RestU vb := by rcases hrb with ⟨_, e⟩ | ⟨n9, e, _⟩; exact e; omega
            subst hs
            clear hrb
            have HIN := hide' (fix_in HRB.out.1 HRA.out.1 HRB.out.2.1 HRA.out.2.1 HP.out.1.symm (fun L => (HP.out.2.2 L).2) hfb)
            have HLE := hide' (show va.mks.length = vb.mks.length from Nat.le_antisymm (fix_len HRB.out.1 HRA.out.1 HTR.out.symm HIN.out) (fix_len HRA.out.1 HRB.out.1 HTR.out (fix_in HRA.out.1 HRB.out.1 HRA.out.2.1 HRB.out.2.1 HP.out.1 (fun L => (HP.out.2.2 L).1) hfa)))
            have HRS := hide' (fun n9 (h9 : n9 < va.cl.length) => pl_rest HRA.out.1 hfa h9)
            clear hfa hfb
            have HPL := hide' (show ∀ i, i < va.mks.length → 0 ≤ plV vb.mks (va.mks.getD i default).l from fun i hi => by have h1 := (HRA.out.1.tr.lit i hi).1; exact pl_true HRB.out.1 (by unfold IsL InR at h1 ⊢; rw [← HTR.out]; exact h1) (HIN.out i hi))
            go_wp2_with fail
            refine (GMA.out _ (Below.refl _ _)).mono ?_
            rintro e w6 ⟨g1, rfl, hg1, _, b6⟩
            go_wp2_with fail
            refine (GMB.out _ b6).mono ?_
            rintro e w7 ⟨g2, rfl, hg2, _, b7⟩
            have m1 : MkAt w6 g1 va.mks := ⟨hg1, HRA.out.1.rd.nM⟩
            have m2 : MkAt w7 g2 vb.mks := ⟨hg2, HRB.out.1.rd.nM⟩
            have GS := hide' (SameTrue_is g1 va.mks g2 vb.mks w7 (m1.later b7) m2 HLE.out HPL.out)
            have B7 := b6.trans (b7.mono b6.size)
            replace B7 := hide' B7
            clear hg1 hg2 b6 b7 m1 m2
            go_wp2_with fail
            refine GS.out.mono ?_
            rintro e x7 ⟨rfl, hx7⟩
            rw [hx7]
            clear hx7 x7 GS
            go_wp2_with fail
            refine (GCA.out _ B7.out).mono ?_
            rintro e w8 ⟨ao, fo, rfl, hCo, hfo, b8⟩
            have B8 := B7.out.trans (b8.mono B7.out.size)
            replace B8 := hide' B8
            have HCo := hide' (And.intro hCo hfo)
            clear hCo hfo b8 B7
            go_wp2_with fail
            refine (GMA.out _ B8.out).mono ?_
            rintro e w9 ⟨g3, rfl, hg3, _, b9⟩
            have B9 := B8.out.trans (b9.mono B8.out.size)
            have GR := hide' (Rest_is ao va.cl.length va.cl.length fo g3 va.mks w9 (HCo.out.1.later b9) (fun i hi j hj => by
                have h1 := HCo.out.2 i hi
                rw [h1.1] at hj
                rw [h1.2]
                exact isl_lo HRA.out.1.rd (HRA.out.1.li i hi _ (by simp [List.getD, List.getElem?_eq_getElem hj])))
                ⟨hg3, HRA.out.1.rd.nM⟩ (fun i hi j hj => by
                have h1 := HCo.out.2 i hi
                rw [h1.1] at hj
                rw [h1.1, h1.2]
                exact (HRS.out i hi).2 j hj)
                (fun i hi => by
                have h1 := HCo.out.2 i hi
                rw [h1.1, h1.2]
                exact (HRS.out i hi).1))
            replace B9 := hide' B9
            clear hg3 b9 B8
            go_wp2_with fail
            refine GR.out.mono ?_
            rintro e wa ⟨rfl, ba9⟩
            have hfin := H5.out.2.2.trans ((B9.out.trans (ba9.mono B9.out.size)).mono H5.out.2.2.size)
            go_wp2
            first | exact ⟨rfl, hfin⟩ | (go_ret; exact ⟨rfl, hfin⟩)
          · skip
            obtain ⟨nb, rfl, hkb⟩ : ∃ nb : Nat, s = (nb : Int) ∧ Brk vb nb := by rcases hrb with ⟨_, e⟩ | e; exact absurd hka (fix_no HRB.out.1 HRA.out.1 HRB.out.2.1 HRA.out.2.1 HP.out.1.symm (fun L => (HP.out.2.2 L).2) e na); exact e
            clear hrb
            have e1 : ((na : Int) == -1) = false := by simp
            have e2 : ((nb : Int) == -1) = false := by simp
            have HBA := hide' (And.intro hka (pl_brk HRA.out.1 hka))
            have HBB := hide' (And.intro hkb (pl_brk HRB.out.1 hkb))
            clear hka hkb
            have B0 := hide' (Below.refl w5.heap.size w5)
            go_wp2_with fail
            refine (GCA.out _ B0.out).mono ?_
            rintro e pA ⟨ao, fo, rfl, hCo, hfo, b8⟩
            have B8 := B0.out.trans (b8.mono B0.out.size)
            replace B8 := hide' B8
            have GAT := hide' (at_is ao va.cl.length va.cl.length fo na HBA.out.1.1 pA hCo)
            have HCo := hide' (And.intro hCo hfo)
            clear hCo hfo b8
            go_wp2_with fail
            refine GAT.out.mono ?_
            rintro e x7 ⟨rfl, hx7⟩
            rw [hx7]
            clear hx7 x7 GAT
            go_wp2_with fail
            refine (GMA.out _ B8.out).mono ?_
            rintro e qA ⟨g3, rfl, hg3, _, b9⟩
            have GBR := hide' (show Calls Try.prog 19 #[.slice (fo na).a (fo na).n (fo na).c, .slice (some ⟨g3, 0, none⟩) va.mks.length va.mks.length] qA fun e w' => e = .returned (.bool true) ∧ w' = qA from by
                have h1 := HCo.out.2 na HBA.out.1.1
                have h2 := Broken_is (fo na).a (fo na).n (fo na).c (fo na).g g3 va.mks qA ((HCo.out.1.2.1 na HBA.out.1.1).later b9) (fun j hj => by rw [h1.1] at hj; rw [h1.2]; exact isl_lo HRA.out.1.rd (HRA.out.1.li na HBA.out.1.1 _ (by simp [List.getD, List.getElem?_eq_getElem hj]))) ⟨hg3, HRA.out.1.rd.nM⟩
                have h3 : allN (fun y => decide (0 ≤ plV va.mks (-y))) (fo na).g (fo na).n = true := by rw [h1.1, h1.2]; exact HBA.out.2
                rw [h3] at h2
                exact h2)
            have CA := B8.out.trans (b9.mono B8.out.size)
            replace CA := hide' CA
            clear hg3 b9 B8 HCo
            go_wp2_with fail
            refine GBR.out.mono ?_
            rintro e x8 ⟨rfl, hx8⟩
            rw [hx8]
            clear hx8 x8 GBR
            go_wp2_with fail
            refine (GCB.out _ CA.out).mono ?_
            rintro e pB ⟨ao, fo, rfl, hCo, hfo, b8⟩
            have B8 := CA.out.trans (b8.mono CA.out.size)
            replace B8 := hide' B8
            have GAT := hide' (at_is ao vb.cl.length vb.cl.length fo nb HBB.out.1.1 pB hCo)
            have HCo := hide' (And.intro hCo hfo)
            clear hCo hfo b8
            go_wp2_with fail
            refine GAT.out.mono ?_
            rintro e x7 ⟨rfl, hx7⟩
            rw [hx7]
            clear hx7 x7 GAT
            go_wp2_with fail
            refine (GMB.out _ B8.out).mono ?_
            rintro e qB ⟨g3, rfl, hg3, _, b9⟩
            have GBR := hide' (show Calls Try.prog 19 #[.slice (fo nb).a (fo nb).n (fo nb).c, .slice (some ⟨g3, 0, none⟩) vb.mks.length vb.mks.length] qB fun e w' => e = .returned (.bool true) ∧ w' = qB from by
                have h1 := HCo.out.2 nb HBB.out.1.1
                have h2 := Broken_is (fo nb).a (fo nb).n (fo nb).c (fo nb).g g3 vb.mks qB ((HCo.out.1.2.1 nb HBB.out.1.1).later b9) (fun j hj => by rw [h1.1] at hj; rw [h1.2]; exact isl_lo HRB.out.1.rd (HRB.out.1.li nb HBB.out.1.1 _ (by simp [List.getD, List.getElem?_eq_getElem hj]))) ⟨hg3, HRB.out.1.rd.nM⟩
                have h3 : allN (fun y => decide (0 ≤ plV vb.mks (-y))) (fo nb).g (fo nb).n = true := by rw [h1.1, h1.2]; exact HBB.out.2
                rw [h3] at h2
                exact h2)
            have CB := B8.out.trans (b9.mono B8.out.size)
            replace CB := hide' CB
            clear hg3 b9 B8 HCo
            go_wp2_with fail
            refine GBR.out.mono ?_
            rintro e x8 ⟨rfl, hx8⟩
            rw [hx8]
            clear hx8 x8 GBR
            have hfin := H5.out.2.2.trans (CB.out.mono H5.out.2.2.size)
            go_wp2
            first | exact ⟨rfl, hfin⟩ | (go_ret; exact ⟨rfl, hfin⟩)
    · by_cases h1 : x > 262144
      · skip
        go_enter Try.func6, Try.ntmps6
        have HP := hide' (made_pair (n := 3) (cn := cn) (f := f) (f' := f9) (dn := dn) (d := d) (by omega) HA.out.2.2.1 fun i _ => HF.out i)
        have hl9 : ∀ i, i < cn → (f9 i).n ≤ 17592186044416 := fun i hi => by rw [HF.out]; exact HA.out.2.2.2 _ (by omega)
        have HIA := hide' (And.intro (made_iv (n := 3) (cn := cn) (f := f) (dn := dn) (d := d) (by omega)) (made_lits (n := 3) (cn := cn) (f := f) (dn := dn) (d := d) HA.out.2.2.2))
        have HIB := hide' (And.intro (made_iv (n := 3) (cn := cn) (f := f9) (dn := dn) (d := d) (by omega)) (made_lits (n := 3) (cn := cn) (f := f9) (dn := dn) (d := d) hl9))
        have GA := hide' (made_is 3 (by omega) ca cn cc f da dn dc d HA.out.2.2.2 w HA.out.2.1 HA.out.1)
        have GB := hide' (fun w' (hb : Below w.heap.size w w') a c (hC9 : ClasAt w' a cn f9) => made_is 3 (by omega) a cn c f9 da dn dc d hl9 w' hC9 (HA.out.1.later hb))
        obtain ⟨UA, hUA⟩ : ∃ U, madeU 3 cn f dn d = U := ⟨_, rfl⟩
        obtain ⟨UB, hUB⟩ : ∃ U, madeU 3 cn f9 dn d = U := ⟨_, rfl⟩
        rw [hUA] at GA HP HIA
        rw [hUB] at GB HP HIB
        clear hUA hUB hl9
        go_wp2_with fail
        refine GA.out.mono ?_
        rintro e w1 ⟨ba, owa, Va, rfl, hUa, B1, hoa⟩
        clear GA
        have H1 := hide' (And.intro hUa (And.intro B1 hoa))
        clear hUa B1 hoa
        go_wp2_with fail
        go_loopw [8, 9] (fun vo vi wr => ∃ k : Nat, k ≤ cn ∧ vi = .int .i64 ((cn : Int) - 1 - (k : Int)) ∧ wr.ownsRow w1.heap.size 41 1 vo k (clk f9 k) ∧ Below w1.heap.size w1 wr) (fun _ vi _ => (intOf vi + 1).toNat)
        case atStart => exact ⟨0, Nat.zero_le _, by go_num, World.ownsRow_nil _ _ _ _, Below.refl _ _⟩
        case round =>
          obtain ⟨k, hk, rfl, hO, hB⟩ := hrel
          by_cases hlt : k < cn
          · obtain ⟨bb, off, rfl, hcell⟩ := HA.out.2.1.2.2 (by omega)
            obtain ⟨q, hq⟩ : ∃ q : Nat, (cn : Int) - 1 - (k : Int) = (q : Int) := ⟨cn - 1 - k, by omega⟩
            rw [hq]
            have hqn : q = cn - 1 - k := by omega
            have ck := below_cell hB (below_cell H1.out.2.1 (hcell q (by omega)))
            clear hcell
            have hfk : f q = f9 k := by rw [HF.out, hqn]
            rw [hfk] at ck
            have i0 : (0 : Int) ≤ (q : Int) := by omega
            have i1 : (q : Int) < (cn : Int) := by omega
            have HV := hide' (clk_succ f9 k)
            obtain ⟨C, hCe⟩ : ∃ C, f9 k = C := ⟨_, rfl⟩
            rw [hCe] at ck HV
            clear hCe hfk hqn
            have hq9 := hide' hq
            clear hq
            obtain ⟨xs, hxs⟩ : ∃ xs, clk f9 k = xs := ⟨_, rfl⟩
            rw [hxs] at hO HV
            clear hxs
            obtain ⟨wB, hwB⟩ : ∃ wB, wr.alloc (.cells #[.slice C.a C.n C.c] 41) = wB := ⟨_, rfl⟩
            have hnew := heap_alloc_new wr (.cells #[.slice C.a C.n C.c] 41)
            have b3 := below_alloc (w := wr) (.cells #[.slice C.a C.n C.c] 41)
            rw [hwB] at hnew b3
            have hO3 := own_below hO b3
            have s3 := b3.size
            have s4 := hB.size
            have hbB : w1.heap.size ≤ wB.heap.size := by omega
            have hl1 : k + 1 ≤ maxLen := by have := HM.out; omega
            have hl2 : (k + 1) * 24 ≤ 140737488355328 := by omega
            have hrow := fun j hj => (hO.lt j hj)
            go_wp2_with (at_builtin; (try rw [hwB]); refine wpList_append_lies _ (by rfl) _ _ _ (by rfl) w1.heap.size 41 ki _ 1 24 Try.underlying34 hki hkz hks hkb rfl (by omega) u8 k xs (by rfl) hO3 ⟨wr.heap.size, 0, none⟩ 1 1 [.slice C.a C.n C.c] (by rfl) (by rfl) (World.news_of_block (cs := #[.slice C.a C.n C.c]) (t := 41) (fr := (0, 0)) hnew) (by simp [Value.oneCell']) (by omega) hl1 hl2 hbB wB.heap.size rfl ?_)
            intro gb cap w9 hown hgrow hat hlt9
            have hB9 := hB.trans (b3.mono hB.size)
            have b9 := below_grown hB9.size (fun j hj => (hrow j hj).1) hgrow
            have I1 := hide' (show w9.ownsRow w1.heap.size 41 1 (.slice (some ⟨gb, 0, none⟩) (k + 1) cap) (k + 1) (clk f9 (k + 1)) ∧ Below w1.heap.size w1 w9 from ⟨by rw [HV.out]; exact hown, hB9.trans b9⟩)
            clear hown hgrow hat hlt9 hnew b3 hO3 hB9 b9 hrow s3 s4 hbB hl1 hl2 hO hB hwB HV
            go_wp2
            go_roundw
            case rel => exact ⟨k + 1, by omega, by have hq := hq9.out; first | go_num | (simp; omega), I1.out.1, I1.out.2⟩
            case measure => have hq := hq9.out; simp only [intOf]; omega
          · obtain rfl : k = cn := by omega
            rw [show (k : Int) - 1 - (k : Int) = -1 from by omega]
            obtain ⟨aB, cB, rfl, hC9⟩ := own_clas hO HA.out.2.2.1 fun i hi => by rw [HF.out]; exact ((HA.out.2.1.2.1 _ (by omega)).later H1.out.2.1).later hB
            have GB2 := hide' (GB.out wr (H1.out.2.1.trans (hB.mono H1.out.2.1.size)) aB cB hC9)
            have HB2 := hide' hB
            clear hO hB hC9 GB
            go_wp2_with fail
            refine GB2.out.mono ?_
            rintro e w3 ⟨bb, owb, Vb, rfl, hUb, B3, hob⟩
            clear GB2
            have hUa := (H1.out.1.later HB2.out).later B3
            have hdj : ∀ x, owa x ≠ .oth → owb x = .oth := fun x hx => hob x (by rcases Nat.lt_or_ge x w1.heap.size with e | e; (have := HB2.out.size; omega); exact absurd (H1.out.1.hi x e) hx)
            have BW3 := H1.out.2.1.trans ((HB2.out.trans (B3.mono HB2.out.size)).mono H1.out.2.1.size)
            have GPA := hide' (propagate_is owa ba Va UA HIA.out.1 w3 hUa)
            have H3 := hide' (And.intro hUb (And.intro hdj (And.intro BW3 (show ∀ x, x < w.heap.size → owb x = .oth from fun x hx => hob x (by have h1 := H1.out.2.1.size; have h2 := HB2.out.size; omega)))))
            clear hUb hdj BW3 hob hUa B3
            go_wp2_with fail
            refine GPA.out.mono ?_
            rintro e w4 ⟨r, va, owa4, Va4, rfl, h4, S4, Ia, Ea, hra⟩
            clear GPA
            obtain ⟨hUb4, hdj4⟩ := H3.out.1.apart S4 H3.out.2.1
            have BW4 := H3.out.2.2.1.trans (S4.below H1.out.2.2 H3.out.2.2.1.size)
            have GPB := hide' (propagate_is owb bb Vb UB HIB.out.1 w4 hUb4)
            have H4 := hide' (And.intro h4 (And.intro hdj4 BW4))
            have HRA := hide' (And.intro Ia (And.intro Ea hra))
            clear h4 hdj4 BW4 S4 hUb4 Ia Ea hra
            go_wp2_with fail
            refine GPB.out.mono ?_
            rintro e w5 ⟨s, vb, owb5, Vb5, rfl, h5, S5, Ib, Eb, hrb⟩
            clear GPB
            obtain ⟨hUa5, _⟩ := H4.out.1.apart S5 (dj_swap H4.out.2.1)
            have BW5 := H4.out.2.2.trans (S5.below H3.out.2.2.2 H4.out.2.2.size)
            have HRB := hide' (And.intro Ib (And.intro Eb hrb))
            have H5 := hide' (And.intro hUa5 (And.intro h5 BW5))
            clear hUa5 h5 BW5 S5 Ib Eb hrb
            have HTR := hide' (show va.tr.length = vb.tr.length from by rw [HRA.out.2.1.tr, HRB.out.2.1.tr, HP.out.2.1])
            have GMA := hide' (fun w' (hb : Below w5.heap.size w5 w') => marks_is owa4 ba Va4 va w' (H5.out.1.later hb) HRA.out.1.rd)
            have GCA := hide' (fun w' (hb : Below w5.heap.size w5 w') => clauses_is owa4 ba Va4 va w' (H5.out.1.later hb) HRA.out.1.rd HRA.out.1.wo.cl (fun m _ => by rw [HRA.out.2.1.lits]; exact HIA.out.2 m) HRA.out.1.li)
            have GMB := hide' (fun w' (hb : Below w5.heap.size w5 w') => marks_is owb5 bb Vb5 vb w' (H5.out.2.1.later hb) HRB.out.1.rd)
            have GCB := hide' (fun w' (hb : Below w5.heap.size w5 w') => clauses_is owb5 bb Vb5 vb w' (H5.out.2.1.later hb) HRB.out.1.rd HRB.out.1.wo.cl (fun m _ => by rw [HRB.out.2.1.lits]; exact HIB.out.2 m) HRB.out.1.li)
            have hra := HRA.out.2.2
            have hrb := HRB.out.2.2
            rcases hra with ⟨rfl, hfa⟩ | ⟨na, rfl, hka⟩
            · skip
              have hs : s = -1 := by rcases hrb with ⟨e, _⟩ | ⟨n9, _, hk9⟩; exact e; exact absurd hk9 (fix_no HRA.out.1 HRB.out.1 HRA.out.2.1 HRB.out.2.1 HP.out.1 (fun L => (HP.out.2.2 L).1) hfa n9)
              have hfb : RestU vb := by rcases hrb with ⟨_, e⟩ | ⟨n9, e, _⟩; exact e; omega
              subst hs
              clear hrb
              have HIN := hide' (fix_in HRB.out.1 HRA.out.1 HRB.out.2.1 HRA.out.2.1 HP.out.1.symm (fun L => (HP.out.2.2 L).2) hfb)
              have HLE := hide' (show va.mks.length = vb.mks.length from Nat.le_antisymm (fix_len HRB.out.1 HRA.out.1 HTR.out.symm HIN.out) (fix_len HRA.out.1 HRB.out.1 HTR.out (fix_in HRA.out.1 HRB.out.1 HRA.out.2.1 HRB.out.2.1 HP.out.1 (fun L => (HP.out.2.2 L).1) hfa)))
              have HRS := hide' (fun n9 (h9 : n9 < va.cl.length) => pl_rest HRA.out.1 hfa h9)
              clear hfa hfb
              have HPL := hide' (show ∀ i, i < va.mks.length → 0 ≤ plV vb.mks (va.mks.getD i default).l from fun i hi => by have h1 := (HRA.out.1.tr.lit i hi).1; exact pl_true HRB.out.1 (by unfold IsL InR at h1 ⊢; rw [← HTR.out]; exact h1) (HIN.out i hi))
              go_wp2_with fail
              refine (GMA.out _ (Below.refl _ _)).mono ?_
              rintro e w6 ⟨g1, rfl, hg1, _, b6⟩
              go_wp2_with fail
              refine (GMB.out _ b6).mono ?_
              rintro e w7 ⟨g2, rfl, hg2, _, b7⟩
              have m1 : MkAt w6 g1 va.mks := ⟨hg1, HRA.out.1.rd.nM⟩
              have m2 : MkAt w7 g2 vb.mks := ⟨hg2, HRB.out.1.rd.nM⟩
              have GS := hide' (SameTrue_is g1 va.mks g2 vb.mks w7 (m1.later b7) m2 HLE.out HPL.out)
              have B7 := b6.trans (b7.mono b6.size)
              replace B7 := hide' B7
              clear hg1 hg2 b6 b7 m1 m2
              go_wp2_with fail
              refine GS.out.mono ?_
              rintro e x7 ⟨rfl, hx7⟩
              rw [hx7]
              clear hx7 x7 GS
              go_wp2_with fail
              refine (GCA.out _ B7.out).mono ?_
              rintro e w8 ⟨ao, fo, rfl, hCo, hfo, b8⟩
              have B8 := B7.out.trans (b8.mono B7.out.size)
              replace B8 := hide' B8
              have HCo := hide' (And.intro hCo hfo)
              clear hCo hfo b8 B7
              go_wp2_with fail
              refine (GMA.out _ B8.out).mono ?_
              rintro e w9 ⟨g3, rfl, hg3, _, b9⟩
              have B9 := B8.out.trans (b9.mono B8.out.size)
              have GR := hide' (Rest_is ao va.cl.length va.cl.length fo g3 va.mks w9 (HCo.out.1.later b9) (fun i hi j hj => by
                  have h1 := HCo.out.2 i hi
                  rw [h1.1] at hj
                  rw [h1.2]
                  exact isl_lo HRA.out.1.rd (HRA.out.1.li i hi _ (by simp [List.getD, List.getElem?_eq_getElem hj])))
                  ⟨hg3, HRA.out.1.rd.nM⟩ (fun i hi j hj => by
                  have h1 := HCo.out.2 i hi
                  rw [h1.1] at hj
                  rw [h1.1, h1.2]
                  exact (HRS.out i hi).2 j hj)
                  (fun i hi => by
                  have h1 := HCo.out.2 i hi
                  rw [h1.1, h1.2]
                  exact (HRS.out i hi).1))
              replace B9 := hide' B9
              clear hg3 b9 B8
              go_wp2_with fail
              refine GR.out.mono ?_
              rintro e wa ⟨rfl, ba9⟩
              have hfin := H5.out.2.2.trans ((B9.out.trans (ba9.mono B9.out.size)).mono H5.out.2.2.size)
              go_wp2
              first | exact ⟨rfl, hfin⟩ | (go_ret; exact ⟨rfl, hfin⟩)
            · skip
              obtain ⟨nb, rfl, hkb⟩ : ∃ nb : Nat, s = (nb : Int) ∧ Brk vb nb := by rcases hrb with ⟨_, e⟩ | e; exact absurd hka (fix_no HRB.out.1 HRA.out.1 HRB.out.2.1 HRA.out.2.1 HP.out.1.symm (fun L => (HP.out.2.2 L).2) e na); exact e
              clear hrb
              have e1 : ((na : Int) == -1) = false := by simp
              have e2 : ((nb : Int) == -1) = false := by simp
              have HBA := hide' (And.intro hka (pl_brk HRA.out.1 hka))
              have HBB := hide' (And.intro hkb (pl_brk HRB.out.1 hkb))
              clear hka hkb
              have B0 := hide' (Below.refl w5.heap.size w5)
              go_wp2_with fail
              refine (GCA.out _ B0.out).mono ?_
              rintro e pA ⟨ao, fo, rfl, hCo, hfo, b8⟩
              have B8 := B0.out.trans (b8.mono B0.out.size)
              replace B8 := hide' B8
              have GAT := hide' (at_is ao va.cl.length va.cl.length fo na HBA.out.1.1 pA hCo)
              have HCo := hide' (And.intro hCo hfo)
              clear hCo hfo b8
              go_wp2_with fail
              refine GAT.out.mono ?_
              rintro e x7 ⟨rfl, hx7⟩
              rw [hx7]
              clear hx7 x7 GAT
              go_wp2_with fail
              refine (GMA.out _ B8.out).mono ?_
              rintro e qA ⟨g3, rfl, hg3, _, b9⟩
              have GBR := hide' (show Calls Try.prog 19 #[.slice (fo na).a (fo na).n (fo na).c, .slice (some ⟨g3, 0, none⟩) va.mks.length va.mks.length] qA fun e w' => e = .returned (.bool true) ∧ w' = qA from by
                  have h1 := HCo.out.2 na HBA.out.1.1
                  have h2 := Broken_is (fo na).a (fo na).n (fo na).c (fo na).g g3 va.mks qA ((HCo.out.1.2.1 na HBA.out.1.1).later b9) (fun j hj => by rw [h1.1] at hj; rw [h1.2]; exact isl_lo HRA.out.1.rd (HRA.out.1.li na HBA.out.1.1 _ (by simp [List.getD, List.getElem?_eq_getElem hj]))) ⟨hg3, HRA.out.1.rd.nM⟩
                  have h3 : allN (fun y => decide (0 ≤ plV va.mks (-y))) (fo na).g (fo na).n = true := by rw [h1.1, h1.2]; exact HBA.out.2
                  rw [h3] at h2
                  exact h2)
              have CA := B8.out.trans (b9.mono B8.out.size)
              replace CA := hide' CA
              clear hg3 b9 B8 HCo
              go_wp2_with fail
              refine GBR.out.mono ?_
              rintro e x8 ⟨rfl, hx8⟩
              rw [hx8]
              clear hx8 x8 GBR
              go_wp2_with fail
              refine (GCB.out _ CA.out).mono ?_
              rintro e pB ⟨ao, fo, rfl, hCo, hfo, b8⟩
              have B8 := CA.out.trans (b8.mono CA.out.size)
              replace B8 := hide' B8
              have GAT := hide' (at_is ao vb.cl.length vb.cl.length fo nb HBB.out.1.1 pB hCo)
              have HCo := hide' (And.intro hCo hfo)
              clear hCo hfo b8
              go_wp2_with fail
              refine GAT.out.mono ?_
              rintro e x7 ⟨rfl, hx7⟩
              rw [hx7]
              clear hx7 x7 GAT
              go_wp2_with fail
              refine (GMB.out _ B8.out).mono ?_
              rintro e qB ⟨g3, rfl, hg3, _, b9⟩
              have GBR := hide' (show Calls Try.prog 19 #[.slice (fo nb).a (fo nb).n (fo nb).c, .slice (some ⟨g3, 0, none⟩) vb.mks.length vb.mks.length] qB fun e w' => e = .returned (.bool true) ∧ w' = qB from by
                  have h1 := HCo.out.2 nb HBB.out.1.1
                  have h2 := Broken_is (fo nb).a (fo nb).n (fo nb).c (fo nb).g g3 vb.mks qB ((HCo.out.1.2.1 nb HBB.out.1.1).later b9) (fun j hj => by rw [h1.1] at hj; rw [h1.2]; exact isl_lo HRB.out.1.rd (HRB.out.1.li nb HBB.out.1.1 _ (by simp [List.getD, List.getElem?_eq_getElem hj]))) ⟨hg3, HRB.out.1.rd.nM⟩
                  have h3 : allN (fun y => decide (0 ≤ plV vb.mks (-y))) (fo nb).g (fo nb).n = true := by rw [h1.1, h1.2]; exact HBB.out.2
                  rw [h3] at h2
                  exact h2)
              have CB := B8.out.trans (b9.mono B8.out.size)
              replace CB := hide' CB
              clear hg3 b9 B8 HCo
              go_wp2_with fail
              refine GBR.out.mono ?_
              rintro e x8 ⟨rfl, hx8⟩
              rw [hx8]
              clear hx8 x8 GBR
              have hfin := H5.out.2.2.trans (CB.out.mono H5.out.2.2.size)
              go_wp2
              first | exact ⟨rfl, hfin⟩ | (go_ret; exact ⟨rfl, hfin⟩)
      · obtain ⟨nn, rfl⟩ : ∃ nn : Nat, x = (nn : Int) := ⟨x.toNat, by omega⟩
        go_enter Try.func6, Try.ntmps6
        have HP := hide' (made_pair (n := nn) (cn := cn) (f := f) (f' := f9) (dn := dn) (d := d) (by omega) HA.out.2.2.1 fun i _ => HF.out i)
        have hl9 : ∀ i, i < cn → (f9 i).n ≤ 17592186044416 := fun i hi => by rw [HF.out]; exact HA.out.2.2.2 _ (by omega)
        have HIA := hide' (And.intro (made_iv (n := nn) (cn := cn) (f := f) (dn := dn) (d := d) (by omega)) (made_lits (n := nn) (cn := cn) (f := f) (dn := dn) (d := d) HA.out.2.2.2))
        have HIB := hide' (And.intro (made_iv (n := nn) (cn := cn) (f := f9) (dn := dn) (d := d) (by omega)) (made_lits (n := nn) (cn := cn) (f := f9) (dn := dn) (d := d) hl9))
        have GA := hide' (made_is nn (by omega) ca cn cc f da dn dc d HA.out.2.2.2 w HA.out.2.1 HA.out.1)
        have GB := hide' (fun w' (hb : Below w.heap.size w w') a c (hC9 : ClasAt w' a cn f9) => made_is nn (by omega) a cn c f9 da dn dc d hl9 w' hC9 (HA.out.1.later hb))
        obtain ⟨UA, hUA⟩ : ∃ U, madeU nn cn f dn d = U := ⟨_, rfl⟩
        obtain ⟨UB, hUB⟩ : ∃ U, madeU nn cn f9 dn d = U := ⟨_, rfl⟩
        rw [hUA] at GA HP HIA
        rw [hUB] at GB HP HIB
        clear hUA hUB hl9
        go_wp2_with fail
        refine GA.out.mono ?_
        rintro e w1 ⟨ba, owa, Va, rfl, hUa, B1, hoa⟩
        clear GA
        have H1 := hide' (And.intro hUa (And.intro B1 hoa))
        clear hUa B1 hoa
        go_wp2_with fail
        go_loopw [8, 9] (fun vo vi wr => ∃ k : Nat, k ≤ cn ∧ vi = .int .i64 ((cn : Int) - 1 - (k : Int)) ∧ wr.ownsRow w1.heap.size 41 1 vo k (clk f9 k) ∧ Below w1.heap.size w1 wr) (fun _ vi _ => (intOf vi + 1).toNat)
        case atStart => exact ⟨0, Nat.zero_le _, by go_num, World.ownsRow_nil _ _ _ _, Below.refl _ _⟩
        case round =>
          obtain ⟨k, hk, rfl, hO, hB⟩ := hrel
          by_cases hlt : k < cn
          · obtain ⟨bb, off, rfl, hcell⟩ := HA.out.2.1.2.2 (by omega)
            obtain ⟨q, hq⟩ : ∃ q : Nat, (cn : Int) - 1 - (k : Int) = (q : Int) := ⟨cn - 1 - k, by omega⟩
            rw [hq]
            have hqn : q = cn - 1 - k := by omega
            have ck := below_cell hB (below_cell H1.out.2.1 (hcell q (by omega)))
            clear hcell
            have hfk : f q = f9 k := by rw [HF.out, hqn]
            rw [hfk] at ck
            have i0 : (0 : Int) ≤ (q : Int) := by omega
            have i1 : (q : Int) < (cn : Int) := by omega
            have HV := hide' (clk_succ f9 k)
            obtain ⟨C, hCe⟩ : ∃ C, f9 k = C := ⟨_, rfl⟩
            rw [hCe] at ck HV
            clear hCe hfk hqn
            have hq9 := hide' hq
            clear hq
            obtain ⟨xs, hxs⟩ : ∃ xs, clk f9 k = xs := ⟨_, rfl⟩
            rw [hxs] at hO HV
            clear hxs
            obtain ⟨wB, hwB⟩ : ∃ wB, wr.alloc (.cells #[.slice C.a C.n C.c] 41) = wB := ⟨_, rfl⟩
            have hnew := heap_alloc_new wr (.cells #[.slice C.a C.n C.c] 41)
            have b3 := below_alloc (w := wr) (.cells #[.slice C.a C.n C.c] 41)
            rw [hwB] at hnew b3
            have hO3 := own_below hO b3
            have s3 := b3.size
            have s4 := hB.size
            have hbB : w1.heap.size ≤ wB.heap.size := by omega
            have hl1 : k + 1 ≤ maxLen := by have := HM.out; omega
            have hl2 : (k + 1) * 24 ≤ 140737488355328 := by omega
            have hrow := fun j hj => (hO.lt j hj)
            go_wp2_with (at_builtin; (try rw [hwB]); refine wpList_append_lies _ (by rfl) _ _ _ (by rfl) w1.heap.size 41 ki _ 1 24 Try.underlying34 hki hkz hks hkb rfl (by omega) u8 k xs (by rfl) hO3 ⟨wr.heap.size, 0, none⟩ 1 1 [.slice C.a C.n C.c] (by rfl) (by rfl) (World.news_of_block (cs := #[.slice C.a C.n C.c]) (t := 41) (fr := (0, 0)) hnew) (by simp [Value.oneCell']) (by omega) hl1 hl2 hbB wB.heap.size rfl ?_)
            intro gb cap w9 hown hgrow hat hlt9
            have hB9 := hB.trans (b3.mono hB.size)
            have b9 := below_grown hB9.size (fun j hj => (hrow j hj).1) hgrow
            have I1 := hide' (show w9.ownsRow w1.heap.size 41 1 (.slice (some ⟨gb, 0, none⟩) (k + 1) cap) (k + 1) (clk f9 (k + 1)) ∧ Below w1.heap.size w1 w9 from ⟨by rw [HV.out]; exact hown, hB9.trans b9⟩)
            clear hown hgrow hat hlt9 hnew b3 hO3 hB9 b9 hrow s3 s4 hbB hl1 hl2 hO hB hwB HV
            go_wp2
            go_roundw
            case rel => exact ⟨k + 1, by omega, by have hq := hq9.out; first | go_num | (simp; omega), I1.out.1, I1.out.2⟩
            case measure => have hq := hq9.out; simp only [intOf]; omega
          · obtain rfl : k = cn := by omega
            rw [show (k : Int) - 1 - (k : Int) = -1 from by omega]
            obtain ⟨aB, cB, rfl, hC9⟩ := own_clas hO HA.out.2.2.1 fun i hi => by rw [HF.out]; exact ((HA.out.2.1.2.1 _ (by omega)).later H1.out.2.1).later hB
            have GB2 := hide' (GB.out wr (H1.out.2.1.trans (hB.mono H1.out.2.1.size)) aB cB hC9)
            have HB2 := hide' hB
            clear hO hB hC9 GB
            go_wp2_with fail
            refine GB2.out.mono ?_
            rintro e w3 ⟨bb, owb, Vb, rfl, hUb, B3, hob⟩
            clear GB2
            have hUa := (H1.out.1.later HB2.out).later B3
            have hdj : ∀ x, owa x ≠ .oth → owb x = .oth := fun x hx => hob x (by rcases Nat.lt_or_ge x w1.heap.size with e | e; (have := HB2.out.size; omega); exact absurd (H1.out.1.hi x e) hx)
            have BW3 := H1.out.2.1.trans ((HB2.out.trans (B3.mono HB2.out.size)).mono H1.out.2.1.size)
            have GPA := hide' (propagate_is owa ba Va UA HIA.out.1 w3 hUa)
            have H3 := hide' (And.intro hUb (And.intro hdj (And.intro BW3 (show ∀ x, x < w.heap.size → owb x = .oth from fun x hx => hob x (by have h1 := H1.out.2.1.size; have h2 := HB2.out.size; omega)))))
            clear hUb hdj BW3 hob hUa B3
            go_wp2_with fail
            refine GPA.out.mono ?_
            rintro e w4 ⟨r, va, owa4, Va4, rfl, h4, S4, Ia, Ea, hra⟩
            clear GPA
            obtain ⟨hUb4, hdj4⟩ := H3.out.1.apart S4 H3.out.2.1
            have BW4 := H3.out.2.2.1.trans (S4.below H1.out.2.2 H3.out.2.2.1.size)
            have GPB := hide' (propagate_is owb bb Vb UB HIB.out.1 w4 hUb4)
            have H4 := hide' (And.intro h4 (And.intro hdj4 BW4))
            have HRA := hide' (And.intro Ia (And.intro Ea hra))
            clear h4 hdj4 BW4 S4 hUb4 Ia Ea hra
            go_wp2_with fail
            refine GPB.out.mono ?_
            rintro e w5 ⟨s, vb, owb5, Vb5, rfl, h5, S5, Ib, Eb, hrb⟩
            clear GPB
            obtain ⟨hUa5, _⟩ := H4.out.1.apart S5 (dj_swap H4.out.2.1)
            have BW5 := H4.out.2.2.trans (S5.below H3.out.2.2.2 H4.out.2.2.size)
            have HRB := hide' (And.intro Ib (And.intro Eb hrb))
            have H5 := hide' (And.intro hUa5 (And.intro h5 BW5))
            clear hUa5 h5 BW5 S5 Ib Eb hrb
            have HTR := hide' (show va.tr.length = vb.tr.length from by rw [HRA.out.2.1.tr, HRB.out.2.1.tr, HP.out.2.1])
            have GMA := hide' (fun w' (hb : Below w5.heap.size w5 w') => marks_is owa4 ba Va4 va w' (H5.out.1.later hb) HRA.out.1.rd)
            have GCA := hide' (fun w' (hb : Below w5.heap.size w5 w') => clauses_is owa4 ba Va4 va w' (H5.out.1.later hb) HRA.out.1.rd HRA.out.1.wo.cl (fun m _ => by rw [HRA.out.2.1.lits]; exact HIA.out.2 m) HRA.out.1.li)
            have GMB := hide' (fun w' (hb : Below w5.heap.size w5 w') => marks_is owb5 bb Vb5 vb w' (H5.out.2.1.later hb) HRB.out.1.rd)
            have GCB := hide' (fun w' (hb : Below w5.heap.size w5 w') => clauses_is owb5 bb Vb5 vb w' (H5.out.2.1.later hb) HRB.out.1.rd HRB.out.1.wo.cl (fun m _ => by rw [HRB.out.2.1.lits]; exact HIB.out.2 m) HRB.out.1.li)
            have hra := HRA.out.2.2
            have hrb := HRB.out.2.2
            rcases hra with ⟨rfl, hfa⟩ | ⟨na, rfl, hka⟩
            · skip
              have hs : s = -1 := by rcases hrb with ⟨e, _⟩ | ⟨n9, _, hk9⟩; exact e; exact absurd hk9 (fix_no HRA.out.1 HRB.out.1 HRA.out.2.1 HRB.out.2.1 HP.out.1 (fun L => (HP.out.2.2 L).1) hfa n9)
              have hfb : RestU vb := by rcases hrb with ⟨_, e⟩ | ⟨n9, e, _⟩; exact e; omega
              subst hs
              clear hrb
              have HIN := hide' (fix_in HRB.out.1 HRA.out.1 HRB.out.2.1 HRA.out.2.1 HP.out.1.symm (fun L => (HP.out.2.2 L).2) hfb)
              have HLE := hide' (show va.mks.length = vb.mks.length from Nat.le_antisymm (fix_len HRB.out.1 HRA.out.1 HTR.out.symm HIN.out) (fix_len HRA.out.1 HRB.out.1 HTR.out (fix_in HRA.out.1 HRB.out.1 HRA.out.2.1 HRB.out.2.1 HP.out.1 (fun L => (HP.out.2.2 L).1) hfa)))
              have HRS := hide' (fun n9 (h9 : n9 < va.cl.length) => pl_rest HRA.out.1 hfa h9)
              clear hfa hfb
              have HPL := hide' (show ∀ i, i < va.mks.length → 0 ≤ plV vb.mks (va.mks.getD i default).l from fun i hi => by have h1 := (HRA.out.1.tr.lit i hi).1; exact pl_true HRB.out.1 (by unfold IsL InR at h1 ⊢; rw [← HTR.out]; exact h1) (HIN.out i hi))
              go_wp2_with fail
              refine (GMA.out _ (Below.refl _ _)).mono ?_
              rintro e w6 ⟨g1, rfl, hg1, _, b6⟩
              go_wp2_with fail
              refine (GMB.out _ b6).mono ?_
              rintro e w7 ⟨g2, rfl, hg2, _, b7⟩
              have m1 : MkAt w6 g1 va.mks := ⟨hg1, HRA.out.1.rd.nM⟩
              have m2 : MkAt w7 g2 vb.mks := ⟨hg2, HRB.out.1.rd.nM⟩
              have GS := hide' (SameTrue_is g1 va.mks g2 vb.mks w7 (m1.later b7) m2 HLE.out HPL.out)
              have B7 := b6.trans (b7.mono b6.size)
              replace B7 := hide' B7
              clear hg1 hg2 b6 b7 m1 m2
              go_wp2_with fail
              refine GS.out.mono ?_
              rintro e x7 ⟨rfl, hx7⟩
              rw [hx7]
              clear hx7 x7 GS
              go_wp2_with fail
              refine (GCA.out _ B7.out).mono ?_
              rintro e w8 ⟨ao, fo, rfl, hCo, hfo, b8⟩
              have B8 := B7.out.trans (b8.mono B7.out.size)
              replace B8 := hide' B8
              have HCo := hide' (And.intro hCo hfo)
              clear hCo hfo b8 B7
              go_wp2_with fail
              refine (GMA.out _ B8.out).mono ?_
              rintro e w9 ⟨g3, rfl, hg3, _, b9⟩
              have B9 := B8.out.trans (b9.mono B8.out.size)
              have GR := hide' (Rest_is ao va.cl.length va.cl.length fo g3 va.mks w9 (HCo.out.1.later b9) (fun i hi j hj => by
                  have h1 := HCo.out.2 i hi
                  rw [h1.1] at hj
                  rw [h1.2]
                  exact isl_lo HRA.out.1.rd (HRA.out.1.li i hi _ (by simp [List.getD, List.getElem?_eq_getElem hj])))
                  ⟨hg3, HRA.out.1.rd.nM⟩ (fun i hi j hj => by
                  have h1 := HCo.out.2 i hi
                  rw [h1.1] at hj
                  rw [h1.1, h1.2]
                  exact (HRS.out i hi).2 j hj)
                  (fun i hi => by
                  have h1 := HCo.out.2 i hi
                  rw [h1.1, h1.2]
                  exact (HRS.out i hi).1))
              replace B9 := hide' B9
              clear hg3 b9 B8
              go_wp2_with fail
              refine GR.out.mono ?_
              rintro e wa ⟨rfl, ba9⟩
              have hfin := H5.out.2.2.trans ((B9.out.trans (ba9.mono B9.out.size)).mono H5.out.2.2.size)
              go_wp2
              first | exact ⟨rfl, hfin⟩ | (go_ret; exact ⟨rfl, hfin⟩)
            · skip
              obtain ⟨nb, rfl, hkb⟩ : ∃ nb : Nat, s = (nb : Int) ∧ Brk vb nb := by rcases hrb with ⟨_, e⟩ | e; exact absurd hka (fix_no HRB.out.1 HRA.out.1 HRB.out.2.1 HRA.out.2.1 HP.out.1.symm (fun L => (HP.out.2.2 L).2) e na); exact e
              clear hrb
              have e1 : ((na : Int) == -1) = false := by simp
              have e2 : ((nb : Int) == -1) = false := by simp
              have HBA := hide' (And.intro hka (pl_brk HRA.out.1 hka))
              have HBB := hide' (And.intro hkb (pl_brk HRB.out.1 hkb))
              clear hka hkb
              have B0 := hide' (Below.refl w5.heap.size w5)
              go_wp2_with fail
              refine (GCA.out _ B0.out).mono ?_
              rintro e pA ⟨ao, fo, rfl, hCo, hfo, b8⟩
              have B8 := B0.out.trans (b8.mono B0.out.size)
              replace B8 := hide' B8
              have GAT := hide' (at_is ao va.cl.length va.cl.length fo na HBA.out.1.1 pA hCo)
              have HCo := hide' (And.intro hCo hfo)
              clear hCo hfo b8
              go_wp2_with fail
              refine GAT.out.mono ?_
              rintro e x7 ⟨rfl, hx7⟩
              rw [hx7]
              clear hx7 x7 GAT
              go_wp2_with fail
              refine (GMA.out _ B8.out).mono ?_
              rintro e qA ⟨g3, rfl, hg3, _, b9⟩
              have GBR := hide' (show Calls Try.prog 19 #[.slice (fo na).a (fo na).n (fo na).c, .slice (some ⟨g3, 0, none⟩) va.mks.length va.mks.length] qA fun e w' => e = .returned (.bool true) ∧ w' = qA from by
                  have h1 := HCo.out.2 na HBA.out.1.1
                  have h2 := Broken_is (fo na).a (fo na).n (fo na).c (fo na).g g3 va.mks qA ((HCo.out.1.2.1 na HBA.out.1.1).later b9) (fun j hj => by rw [h1.1] at hj; rw [h1.2]; exact isl_lo HRA.out.1.rd (HRA.out.1.li na HBA.out.1.1 _ (by simp [List.getD, List.getElem?_eq_getElem hj]))) ⟨hg3, HRA.out.1.rd.nM⟩
                  have h3 : allN (fun y => decide (0 ≤ plV va.mks (-y))) (fo na).g (fo na).n = true := by rw [h1.1, h1.2]; exact HBA.out.2
                  rw [h3] at h2
                  exact h2)
              have CA := B8.out.trans (b9.mono B8.out.size)
              replace CA := hide' CA
              clear hg3 b9 B8 HCo
              go_wp2_with fail
              refine GBR.out.mono ?_
              rintro e x8 ⟨rfl, hx8⟩
              rw [hx8]
              clear hx8 x8 GBR
              go_wp2_with fail
              refine (GCB.out _ CA.out).mono ?_
              rintro e pB ⟨ao, fo, rfl, hCo, hfo, b8⟩
              have B8 := CA.out.trans (b8.mono CA.out.size)
              replace B8 := hide' B8
              have GAT := hide' (at_is ao vb.cl.length vb.cl.length fo nb HBB.out.1.1 pB hCo)
              have HCo := hide' (And.intro hCo hfo)
              clear hCo hfo b8
              go_wp2_with fail
              refine GAT.out.mono ?_
              rintro e x7 ⟨rfl, hx7⟩
              rw [hx7]
              clear hx7 x7 GAT
              go_wp2_with fail
              refine (GMB.out _ B8.out).mono ?_
              rintro e qB ⟨g3, rfl, hg3, _, b9⟩
              have GBR := hide' (show Calls Try.prog 19 #[.slice (fo nb).a (fo nb).n (fo nb).c, .slice (some ⟨g3, 0, none⟩) vb.mks.length vb.mks.length] qB fun e w' => e = .returned (.bool true) ∧ w' = qB from by
                  have h1 := HCo.out.2 nb HBB.out.1.1
                  have h2 := Broken_is (fo nb).a (fo nb).n (fo nb).c (fo nb).g g3 vb.mks qB ((HCo.out.1.2.1 nb HBB.out.1.1).later b9) (fun j hj => by rw [h1.1] at hj; rw [h1.2]; exact isl_lo HRB.out.1.rd (HRB.out.1.li nb HBB.out.1.1 _ (by simp [List.getD, List.getElem?_eq_getElem hj]))) ⟨hg3, HRB.out.1.rd.nM⟩
                  have h3 : allN (fun y => decide (0 ≤ plV vb.mks (-y))) (fo nb).g (fo nb).n = true := by rw [h1.1, h1.2]; exact HBB.out.2
                  rw [h3] at h2
                  exact h2)
              have CB := B8.out.trans (b9.mono B8.out.size)
              replace CB := hide' CB
              clear hg3 b9 B8 HCo
              go_wp2_with fail
              refine GBR.out.mono ?_
              rintro e x8 ⟨rfl, hx8⟩
              rw [hx8]
              clear hx8 x8 GBR
              have hfin := H5.out.2.2.trans (CB.out.mono H5.out.2.2.size)
              go_wp2
              first | exact ⟨rfl, hfin⟩ | (go_ret; exact ⟨rfl, hfin⟩)
theorem walk (x : Int) (ca : Option Addr) (cn cc : Nat) (f : Nat → Cla) (da : Option Addr) (dn dc : Nat) (d : Nat → Int) (w : World) (hx1 : -9223372036854775808 ≤ x) (hx2 : x ≤ 9223372036854775807) (hC : ClasAt w ca cn f) (hcl : ∀ i, i < cn → (f i).n ≤ 17592186044416) (hcc : cn ≤ cc) (hD : LitsAt w da dn d) :
    Calls Try.prog 6 #[.int .i64 x, .slice ca cn cc, .slice da dn dc] w fun e w' => e = .returned (.bool true) ∧ Below w.heap.size w w' := walkM x ca cn cc f da dn dc d w hx1 hx2 hC hcl hcc hD

set_option maxRecDepth 100000 in
theorem contract (H : Type) (enc : TypeId × Value → H) (W : World) (base : Nat) (args : Array Value) (ds gs : List (DataW H)) (before : List MemPlace)
    (hval : ∀ (j : Nat) t v, Try.f6.params[j]? = some t → args[j]? = some v → Value.okWide Try.prog W .any base t v)
    (hW : DataW.Whole enc Try.prog Try.f6.params.toList Rows.unitsFixpointSpec.vars false W args.toList ds gs before)
    (hsz : (DataW.weightsEach Try.prog (Try.f6.params.toList ++ Rows.unitsFixpointSpec.plain.varTypes Try.prog) (ds ++ gs)).all (· ≤ reachBytes) = true) :
    Calls Try.prog 6 args W fun e W' => ∃ v, e = .returned v ∧ Rows.unitsFixpointSpec.post enc Try.prog Try.f6 false true false false W args v W' := by
  have hW' := hW
  obtain ⟨p, q, hA0, hV, rfl, hfz, hnd⟩ := hW
  have hA : DataW.TrodAll enc Try.prog W 0 (fun _ => true) true Try.f6.params.toList args.toList ds p := hA0
  rw [Try.params6] at hA hval hsz
  obtain ⟨v0, vs0, d0, ds0, p0, q0, hargs, rfl, rfl, h0, r0⟩ := trodAll_cons hA
  obtain ⟨v1, vs1, d1, ds1, p1, q1, rfl, rfl, rfl, h1, r1⟩ := trodAll_cons r0
  obtain ⟨v2, vs2, d2, ds2, p2, q2, rfl, rfl, rfl, h2, r2⟩ := trodAll_cons r1
  obtain ⟨rfl, rfl, rfl⟩ := trodAll_nil r2
  obtain rfl : args = #[v0, v1, v2] := by cases args; simp_all
  obtain ⟨rfl, rfl⟩ := trodVars_none hV
  obtain ⟨z0, rfl, rfl, rfl, w0⟩ := open_int Try.underlying3 (hval 0 3 v0 rfl rfl) h0
  have bz0 := bounds_i64 w0
  have lt1 : ∀ x ∈ p1, x.block < W.heap.size := by obtain ⟨m, hm⟩ := h1; exact DataW.trod_lt m _ _ _ hm
  obtain ⟨ca1, cn1, cc1, rfl⟩ := okWide_slice Try.underlying34 (hval 1 34 v1 rfl rfl)
  obtain ⟨cf1, hC1, hCk1, hCc1, hCu1⟩ := open_ClasS h1 (sized_at9 1 hsz rfl rfl)
  have lt2 : ∀ x ∈ p2, x.block < W.heap.size := by obtain ⟨m, hm⟩ := h2; exact DataW.trod_lt m _ _ _ hm
  obtain ⟨ia2, il2, ic2, rfl⟩ := okWide_slice Try.underlying40 (hval 2 40 v2 rfl rfl)
  obtain ⟨ig2, hI2, hIc2, hIu2⟩ := open_Lits h2
  clear hA0
  simp only [List.append_nil] at hW'
  refine (walk z0 ca1 cn1 cc1 cf1 ia2 il2 ic2 ig2 W (by omega) (by omega) hC1 hCu1 hCc1 hI2).mono fun e W' ⟨he, bel⟩ => ?_
  subst he
  exact ⟨_, rfl, _, _, _, [], _, [], hW', trodAll_mk1 (shut_bool Try.underlying4 _), (trodAll_cons_mk (shut_int Try.underlying3 w0) (trodAll_cons_mk (Below.trod laidOut (by kernel_rfl) (of_decide_eq_true (by kernel_rfl)) h1 bel lt1) (trodAll_cons_mk (Below.trod laidOut (by kernel_rfl) (of_decide_eq_true (by kernel_rfl)) h2 bel lt2) trodAll_mk0))), rfl, bel.frame _, fun h => by cases h⟩

set_option maxRecDepth 100000 in
theorem lifted (os : Os) (started : os.Started) (H : Type) (enc : TypeId × Value → H) :
    ReturnsInHanded {} Try.checked os 6 .any (Rows.unitsFixpointSpec.pre6 enc Try.prog Try.f6 Rows.unitsFixpointRow.domain false) (Rows.unitsFixpointSpec.post enc Try.prog Try.f6 false true false false) := by
  refine returnsInHanded_of_change_sized (C := Try.checked) own started (by kernel_rfl) Try.func6
    (ChangeSpec.witness6 (enc := enc) (C := Try.checked) false ⟨#[], #[.int .i64 0, .slice none 0 0, .slice none 0 0], []⟩ 8 (by kernel_rfl) (by kernel_rfl) (by kernel_rfl) (by kernel_rfl)) ?_
  intro W base args ds gs before hval hW _ hsz _
  exact contract H enc W base args ds gs before hval hW hsz

theorem over : Rows.unitsFixpointRow.holds Try.pinned (OpenSpec.ofChange Rows.unitsFixpointSpec) :=
  OpenClaim.holds_of_wide 6 Try.f6 rfl rfl rfl rfl rfl rfl rfl ⟨rfl, rfl, rfl, rfl, rfl⟩ rfl rfl rfl rfl rfl (by kernel_rfl) Try.func6 (by kernel_rfl)
    (of_decide_eq_true (by kernel_rfl)) (by unfold Func.isWrapper; first | (rw [if_pos (by decide +kernel)]; kernel_rfl) | (rw [if_neg (by decide +kernel)]; exact ⟨rfl, rfl⟩))
    (fun os started H enc _ => lifted os started H enc)

end Go.Proofs.Ytfodejhipnmgnaa.unitsFixpoint
namespace Go.Proofs.Ytfodejhipnmgnaa
theorem unitsFixpoint_holds : Rows.UnitsFixpointSaid := unitsFixpoint.over
#print axioms unitsFixpoint_holds
end Go.Proofs.Ytfodejhipnmgnaa
