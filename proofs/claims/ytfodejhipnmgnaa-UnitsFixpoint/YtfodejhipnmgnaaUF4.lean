/-
  units: Propagate.
-/
import Derived.Test.YtfodejhipnmgnaaUF3
namespace Go.Proofs.Ytfodejhipnmgnaa
open Go.RowKit
set_option linter.unusedVariables false
set_option linter.unusedSimpArgs false
theorem run_append_zero {P : Program} {w : World} (base : Nat) (t ty e : TypeId) (i : TypeInfo) (size : Nat) (ht : P.underlying t = some (.slice e)) (hi : P.info? e = some i)
    (v : Value) (n : Nat) (xs : List Value) (hown : w.ownsRow base e size v n xs) (a : Option Addr) (c : Nat) :
    (Builtin.append_ #[t, t] ty #[v, .slice a 0 c]).run P w = .ok v w := by
  cases a <;> rcases hown.2 with ⟨rfl, rfl⟩ | ⟨g, cap, cur, rfl, _, _, hnc, _⟩
  · simp [Builtin.append_, run_underlying ht, sizeOf, typeInfo, hi, Builtin.lenOf, Builtin.firstCells]
  · simp [Builtin.append_, run_underlying ht, sizeOf, typeInfo, hi, Builtin.lenOf, Builtin.firstCells, hnc, storeCells]
  · simp [Builtin.append_, run_underlying ht, sizeOf, typeInfo, hi, Builtin.lenOf, Builtin.firstCells, loadCells, loadCellsFrom]
  · simp [Builtin.append_, run_underlying ht, sizeOf, typeInfo, hi, Builtin.lenOf, Builtin.firstCells, hnc, storeCells, loadCells, loadCellsFrom]
theorem step_append_zero {P : Program} {w : World} {ops : Array Oper} {o : Oper} {a : Act} {K : Act → World → Prop} {Q : Exit → Act → World → Prop} {E : Prop} (hgd : o.guard = none) (s x : Operand) (t : TypeId)
    (ho : o.op = .call { callee := .builtin .append, args := #[s, x], argTypes := #[t, t] })
    (base : Nat) (e : TypeId) (i : TypeInfo) (size : Nat) (ht : P.underlying t = some (.slice e)) (hi : P.info? e = some i)
    (v : Value) (n : Nat) (xs : List Value) (hs : a.eval s = v) (hown : w.ownsRow base e size v n xs) (ad : Option Addr) (c : Nat) (hx : a.eval x = .slice ad 0 c) (h : K (a.put o.dst v) w) :
    if Region.wanted o (yielded ops a.tmps) = true then Oper.wp P o a w K Q else E := by
  have hw : Region.wanted o (yielded ops a.tmps) = true := by simp [Region.wanted, hgd]
  rw [if_pos hw]
  have hrun := run_append_zero (P := P) (w := w) base t o.type e i size ht hi v n xs hown ad c
  unfold Oper.wp
  simp [execOp, ho, resolve, invoke, builtin, hs, hx, hrun, Result.andThen]
  exact h
theorem RowAt.news {w : World} {ow : Nat → Tg} {t : Tg} {e : TypeId} {s : SlV} {n : Nat} {xs : List Value} (h : RowAt w ow t e 1 s n xs) {g : Nat} (hg : s.g = some g) (hl : xs.length = n) : ∀ j u, xs[j]? = some u → w.cell? ((⟨g, 0, none⟩ : Addr).add j) = some u := fun j u hu => by
  have hadd : (⟨g, 0, none⟩ : Addr).add j = ⟨g, j, none⟩ := by unfold Addr.add; split <;> simp_all
  have hj := (List.getElem?_eq_some_iff.1 hu).1
  rw [hadd, h.cell hg (by omega)]
  exact hu
theorem cell_lt9 {w : World} {x o : Nat} {v : Value} (h : w.cell? ⟨x, o, none⟩ = some v) : x < w.heap.size := by
  obtain ⟨cur, e, fr, hb, hx⟩ := Sort.cells_of_cell? h
  exact (Array.getElem?_eq_some_iff.1 hb).1
theorem App.cell {ow ow' : Nat → Tg} {t : Tg} {w w' : World} (h : App ow ow' t w w') {x o : Nat} {v : Value} (hc : w.cell? ⟨x, o, none⟩ = some v) (hne : ow x ≠ t) : w'.cell? ⟨x, o, none⟩ = some v := (cell_keep (h.block x (cell_lt9 hc) hne)).trans hc
theorem cell_far9 {w : World} {b o x y : Nat} {v z : Value} (hc : w.cell? ⟨x, y, none⟩ = some z) (hne : x ≠ b) : (w.setCell ⟨b, o, none⟩ v).cell? ⟨x, y, none⟩ = some z := (cell_keep (heap_setCell_other _ _ _ _ hne)).trans hc
theorem UM.keep_fr {w : World} {ow : Nat → Tg} {b : Nat} {V : SV} {u : US} (h : UM w ow b V u) : UM (w.setCell ⟨b, 5, none⟩ (V.fr.val u.fr.length)) ow b V u ∧ Step ow ow w (w.setCell ⟨b, 5, none⟩ (V.fr.val u.fr.length)) := by
  have hg := h.cells.1
  refine ⟨⟨fun x hx => h.hi x (by rw [World.size_setCell] at hx; exact hx), h.nlv, h.nwv, fun t => ?_⟩, Step.put (by rw [hg]; simp)⟩
  cases t with
  | oth => trivial
  | st =>
    obtain ⟨h0, hrw, c0, c1, c2, c3, c4, c5, c6⟩ := h.cells
    refine ⟨h0, hrw.setCell _ _, ?_, ?_, ?_, ?_, ?_, ?_, ?_⟩
    · rw [cell_set_other (by decide)]; exact c0
    · rw [cell_set_other (by decide)]; exact c1
    · rw [cell_set_other (by decide)]; exact c2
    · rw [cell_set_other (by decide)]; exact c3
    · rw [cell_set_other (by decide)]; exact c4
    · exact cell_set_same c5
    · rw [cell_set_other (by decide)]; exact c6
  | tr => exact (h.part .tr).put hg (by simp)
  | mk => exact (h.part .mk).put hg (by simp)
  | cl => exact (h.part .cl).put hg (by simp)
  | ws => exact (h.part .ws).put hg (by simp)
  | fr => exact (h.part .fr).put hg (by simp)
  | la => exact (h.part .la).put hg (by simp)
  | row i => exact (h.part (.row i)).put hg (by simp)
  | lit i => exact (h.part (.lit i)).put hg (by simp)
theorem fol_ex (v : US) : Ex v (folU v) := ⟨rfl, rfl, fun _ => rfl, Nat.le_refl _, fun _ _ => rfl, fun i a b => absurd b (by show ¬ i < v.mks.length; omega)⟩
/-- what Propagate tells -/
def PrA (ow : Nat → Tg) (b : Nat) (u : US) (w : World) (e : Ending) (w' : World) : Prop :=
  ∃ (r : Int) (v : US) (ow' : Nat → Tg) (V' : SV), e = .returned (.int .i64 r) ∧ UM w' ow' b V' v ∧ Step ow ow' w w' ∧ Iv v ∧ Ex u v ∧ ((r = -1 ∧ v.fr = [] ∧ v.fo = v.mks.length) ∨ ∃ n : Nat, r = n ∧ Brk v n)
theorem meas {a b c d : Nat} (h1 : a = c) (h2 : b = d) (h : c < d) : a < b := by omega
def foAt (b : Nat) (w : World) : Nat := (262145 - intOf ((w.cell? ⟨b, 4, none⟩).getD (.int .i64 0))).toNat
theorem foAt_is {b : Nat} {w : World} {z : Int} (h : w.cell? ⟨b, 4, none⟩ = some (.int .i64 z)) : foAt b w = (262145 - z).toNat := by unfold foAt; rw [h]; rfl
set_option maxHeartbeats 16000000 in
set_option maxRecDepth 100000 in
theorem propagate_is (ow : Nat → Tg) (b : Nat) (V : SV) (u : US) (hI : Iv u) (w : World) (h : UM w ow b V u) :
    Calls Try.prog 14 #[.pointer (some ⟨b, 0, none⟩)] w fun e w' => PrA ow b u w e w' := by
  have HM := hide' maxLen_is
  obtain ⟨ii, hii, hiz, his, hib⟩ := info_parts info_i
  obtain ⟨TQ, hTQ⟩ : ∃ TQ, PrA ow b u w = TQ := ⟨_, rfl⟩
  change Calls _ _ _ _ (PrA ow b u w)
  rw [hTQ]
  replace hTQ := hide' hTQ
  obtain ⟨n0, hn0⟩ : ∃ n, u.tr.length = n + 1 := ⟨u.tr.length - 1, by have := hI.rd.n0; omega⟩
  obtain ⟨g0, hg0⟩ := h.rtr.got hI.rd.n0
  have c0 := h.cells.2.2.1
  rw [SlV.val_some hg0, hn0] at c0
  have GN := hide' (isNoneM b g0 n0 V.tr.c w c0)
  clear c0 hg0 hn0
  have H0 := hide' (And.intro h hI)
  clear h hI
  go_enter Try.func14, Try.ntmps14
  go_wp2_with fail
  refine GN.out.mono ?_
  rintro e w1 ⟨rfl, b1⟩
  clear GN
  have HB1 := hide' b1
  clear b1
  go_wp2_with fail
  go_loopw [] (fun wr => ∃ (ow1 : Nat → Tg) (V1 : SV) (v : US), Iv v ∧ UM wr ow1 b V1 v ∧ Step ow ow1 w wr ∧ Ex u v) (fun wr => foAt b wr)
  case atStart => exact ⟨ow, V, u, H0.out.2, H0.out.1.later HB1.out, Step.of_below HB1.out, Ex.refl _⟩
  case round =>
    clear H0 HB1
    obtain ⟨ow1, V1, v, hI, hU, hS, hE⟩ := hrel
    have hm0 := foAt_is (z := v.fo) hU.cells.2.2.2.2.2.2.1
    have HM0 := hide' hm0
    clear hm0
    have GS := hide' (settle_is ow1 b V1 v hI wr hU)
    have HS := hide' (And.intro hS hE)
    clear hI hU hS hE
    go_wp2_with fail
    refine GS.out.mono ?_
    rintro e w2 ⟨r, x, ow2, V2, rfl, h2, S2, I2, E2, f2, hr⟩
    clear GS
    have S3 := HS.out.1.trans S2
    have E3 := HS.out.2.trans E2
    clear HS S2 E2
    rcases hr with ⟨rfl, hf⟩ | ⟨n, rfl, hB⟩
    · skip
      have k4 := h2.cells.2.2.2.2.2.2.1
      have k1 := h2.cells.2.2.2.1
      have HI := hide' (And.intro I2 (And.intro E3 (And.intro S3 h2)))
      have hM := I2.rd.nM
      have hfo := I2.fo
      by_cases hq : x.fo = x.mks.length
      · skip
        have HX := hide' (fun w' (hb : Below w2.heap.size w2 w') => show TQ (.returned (.int .i64 (-1))) w' from by rw [← hTQ.out]; exact ⟨-1, x, ow2, V2, rfl, h2.later hb, S3.trans (Step.of_below hb), I2, E3, Or.inl ⟨rfl, hf, hq⟩⟩)
        change w2.cell? _ = some (.slice V2.mks.at' x.mks.length V2.mks.c) at k1
        rw [hq] at k4
        obtain ⟨m, hm⟩ : ∃ m, x.mks.length = m := ⟨_, rfl⟩
        rw [hm] at k4 k1 hM
        clear hm hq hfo h2 S3 I2 E3 hf
        go_wp2_with fail
        go_quiet (fail)
        go_wp2
        have HX2 := HX.out _ (below_drewN (n := nq) (Below.refl w2.heap.size w2))
        first | exact HX2 | (go_ret; exact HX2)
      · skip
        have hlt : x.fo < x.mks.length := by omega
        obtain ⟨gM, hgM⟩ := h2.rmk.got (by omega)
        obtain ⟨gW, hgW⟩ := h2.rws.got (by have := I2.wo.ws; have := I2.rd.n0; omega)
        rw [SlV.val_some hgM] at k1
        have HF := hide' (fol_iv I2 hlt hf)
        have hil := (I2.tr.lit x.fo hlt).1
        have hkl := h2.rmk.cell hgM (j := x.fo * 3) (by omega)
        rw [(mkC_at x.mks x.fo hlt).1] at hkl
        change w2.cell? _ = some (.int .i64 (mkU x x.fo).l) at hkl
        obtain ⟨L, hL⟩ : ∃ L, lsU x (lstV (-(mkU x x.fo).l)) = L := ⟨_, rfl⟩
        have HFe := hide' (show folU x = { x with fr := x.fr ++ L, fo := x.fo + 1 } from by unfold folU; rw [hf, List.nil_append, ← hL])
        obtain ⟨y, hy⟩ : ∃ y, (mkU x x.fo).l = y := ⟨_, rfl⟩
        rw [hy] at hil hkl hL
        have hyr : InR x (-y) := by obtain ⟨_, a, b⟩ := hil; constructor <;> omega
        have hT := I2.rd.nT
        have hw9 : IntKind.i64.wrap (-y) = -y := by rw [IntKind.wrap_i64]; obtain ⟨a, b⟩ := hyr; omega
        obtain ⟨i, hi⟩ : ∃ i, lstV (-y) = i := ⟨_, rfl⟩
        have GL := hide' (fun w' => list_is (-y) (by obtain ⟨a, b⟩ := hyr; omega) (by obtain ⟨a, b⟩ := hyr; omega) w')
        rw [hi] at GL hL
        have il : i < x.ws.length := by rw [← hi]; exact I2.wo.lst hyr
        have k3 := h2.cells.2.2.2.2.2.1
        rw [SlV.val_some hgW] at k3
        have kw := h2.rws.cell hgW (j := i) (by omega)
        rw [wsC_at _ _ i h2.nwv il] at kw
        change w2.cell? _ = some ((V2.wv.getD i default).val (lsU x i).length) at kw
        rw [hL] at kw
        have hRR := h2.rrow (i := i) il
        change RowAt _ _ _ _ _ _ (lsU x i).length (iv (lsU x i)) at hRR
        rw [hL] at hRR
        have hLl : L.length ≤ 1048576 := by rw [← hL]; exact Nat.le_trans (I2.wo.wt.len I2.wo.ds i) I2.wo.cl
        have hoM := h2.rmk.2 gM hgM
        have hoW := h2.rws.2 gW hgW
        have hoB := h2.cells.1
        have hfl : x.fr.length = 0 := by rw [hf]; rfl
        obtain ⟨sv, hsv⟩ : ∃ sv, V2.wv.getD i default = sv := ⟨_, rfl⟩
        rw [hsv] at kw hRR
        have i1 : ((x.fo : Int) == (x.mks.length : Int)) = false := by simp; omega
        have i2 : (0 : Int) ≤ (x.fo : Int) := by omega
        have i3 : (x.fo : Int) < (x.mks.length : Int) := by omega
        have i4 : (0 : Int) ≤ (i : Int) := by omega
        have i5 : (i : Int) < (x.ws.length : Int) := by omega
        have Hfo := hide' f2
        obtain ⟨fo, hfe⟩ : ∃ f, x.fo = f := ⟨_, rfl⟩
        obtain ⟨ml, hml⟩ : ∃ f, x.mks.length = f := ⟨_, rfl⟩
        obtain ⟨wl, hwl⟩ : ∃ f, x.ws.length = f := ⟨_, rfl⟩
        rw [hfe, hml] at i1
        rw [hfe] at k4 hkl i2
        rw [hfe, hml] at i3
        rw [hml] at k1 hM
        rw [hwl] at k3 i5
        have HE := hide' (And.intro hfe (And.intro hml hwl))
        clear hfe hml hwl
        have HN := hide' (And.intro hq (And.intro hlt (And.intro hf (And.intro hil (And.intro hyr (And.intro hi (And.intro hL hy)))))))
        replace hoM := hide' hoM
        replace hoW := hide' hoW
        replace hoB := hide' hoB
        have HLl := hide' (And.intro hLl hfl)
        have HRR := hide' hRR
        clear hq hlt hf hil hyr hi hL hy f2 hLl hfl I2 E3 S3 il hsv hT hfo hRR
        go_wp2_with fail
        go_quiet (fail)
        obtain ⟨w3, hw3⟩ : ∃ wq, w2.drewN nq = wq := ⟨_, rfl⟩
        rw [hw3]
        have bQ : Below w2.heap.size w2 w3 := by subst hw3; exact below_drewN (Below.refl _ _)
        clear hw3
        replace k4 := below_cell bQ k4
        replace k1 := below_cell bQ k1
        replace hkl := below_cell bQ hkl
        replace k3 := below_cell bQ k3
        replace kw := below_cell bQ kw
        have h3 := h2.later bQ
        have hRR3 := HRR.out.later bQ
        have S4 := HI.out.2.2.1.trans (Step.of_below bQ)
        replace S4 := hide' S4
        clear h2 bQ HRR
        have k5 := h3.cells.2.2.2.2.2.2.2.1
        change w3.cell? _ = some (.slice V2.fr.at' x.fr.length V2.fr.c) at k5
        by_cases hz : L.length = 0
        · skip
          have kwv : sv.val L.length = .slice sv.at' 0 sv.c := by rw [hz]; rfl
          rw [kwv] at kw
          clear kwv
          go_wp2_with fail
          have bT : Below w3.heap.size w3 w3 := Below.refl _ _
          have bD : Below w3.heap.size w3 w3.drew := (Below.refl _ _).drew
          have kk3 := below_cell bD k3
          have kk1 := below_cell bD k1
          have kk4 := below_cell bD k4
          have khkl := below_cell bD hkl
          have kkw := below_cell bD kw
          replace bT := bT.trans (bD.mono bT.size)
          replace h3 := h3.later bD
          replace hRR3 := hRR3.later bD
          replace k5 := below_cell bD k5
          refine wp_region_held_drew (S := fun w' => w'.cell? ⟨b, 3, none⟩ = some (.slice (some ⟨gW, 0, none⟩) wl V2.ws.c) ∧ w'.cell? ⟨b, 1, none⟩ = some (.slice (some ⟨gM, 0, none⟩) ml V2.mks.c) ∧ w'.cell? ⟨b, 4, none⟩ = some (.int .i64 fo) ∧ w'.cell? ⟨gM, fo * 3, none⟩ = some (.int .i64 y) ∧ w'.cell? ⟨gW, i, none⟩ = some (.slice sv.at' 0 sv.c)) (by kernel_rfl) ⟨kk3, kk1, kk4, khkl, kkw⟩ (fun hHeld => ?_)
          clear kk3 kk1 kk4 khkl kkw
          generalize w3.drew = w4 at bD h3 hRR3 k5 bT hHeld ⊢
          clear bD k3 k1 k4 hkl kw
          refine take' 0 (v := ?_) rfl (by kernel_rfl) (by kernel_rfl) (by kernel_rfl) (fun _ _ _ h => h) (Or.inl ⟨by rfl, ?_⟩) (by assumption) ?_
          rotate_left
          · intro w9 hSw
            go_simp
            first | done | with_reducible rfl
          simp only [Act.put, List.setIfInBounds_toArray, List.set_cons_zero, List.set_cons_succ]
          refine take' 1 (v := ?_) rfl (by kernel_rfl) (by kernel_rfl) (by kernel_rfl) (fun _ _ _ h => h) (Or.inl ⟨by rfl, ?_⟩) (by assumption) ?_
          rotate_left
          · intro w9 hSw
            go_simp
            first | done | with_reducible rfl
          simp only [Act.put, List.setIfInBounds_toArray, List.set_cons_zero, List.set_cons_succ]
          refine take' 2 (v := ?_) rfl (by kernel_rfl) (by kernel_rfl) (by kernel_rfl) (fun _ _ _ h => h) (Or.inl ⟨by rfl, ?_⟩) (by assumption) ?_
          rotate_left
          · intro w9 hSw
            go_simp
            first | done | with_reducible rfl
          simp only [Act.put, List.setIfInBounds_toArray, List.set_cons_zero, List.set_cons_succ]
          refine take' 3 (v := ?_) rfl (by kernel_rfl) (by kernel_rfl) (by kernel_rfl) (fun _ _ _ h => h) (Or.inl ⟨by rfl, ?_⟩) (by assumption) ?_
          rotate_left
          · intro w9 hSw
            go_simp
            first | done | with_reducible rfl
          simp only [Act.put, List.setIfInBounds_toArray, List.set_cons_zero, List.set_cons_succ]
          refine take' 5 (v := ?_) rfl (by kernel_rfl) (by kernel_rfl) (by kernel_rfl) (fun _ _ _ h => h) (Or.inl ⟨by rfl, ?_⟩) (by assumption) ?_
          rotate_left
          · intro w9 hSw
            go_simp
            first | done | with_reducible rfl
          simp only [Act.put, List.setIfInBounds_toArray, List.set_cons_zero, List.set_cons_succ]
          refine take' 6 (v := ?_) rfl (by kernel_rfl) (by kernel_rfl) (by kernel_rfl) (fun _ _ _ h => h) (Or.inl ⟨by rfl, ?_⟩) (by assumption) ?_
          rotate_left
          · intro w9 hSw
            go_simp
            first | done | with_reducible rfl
          simp only [Act.put, List.setIfInBounds_toArray, List.set_cons_zero, List.set_cons_succ]
          refine take' 7 (v := ?_) rfl (by kernel_rfl) (by kernel_rfl) (by kernel_rfl) (fun _ _ _ h => h) (Or.inl ⟨by rfl, ?_⟩) (by assumption) ?_
          rotate_left
          · intro w9 hSw
            go_simp
            first | done | with_reducible rfl
          simp only [Act.put, List.setIfInBounds_toArray, List.set_cons_zero, List.set_cons_succ]
          refine take' 8 (v := ?_) rfl (by kernel_rfl) (by kernel_rfl) (by kernel_rfl) (fun _ _ _ h => h) (Or.inl ⟨by rfl, ?_⟩) (by assumption) ?_
          rotate_left
          · intro w9 hSw
            go_simp
            first | done | with_reducible rfl
          simp only [Act.put, List.setIfInBounds_toArray, List.set_cons_zero, List.set_cons_succ]
          refine take' 9 (v := ?_) rfl (by kernel_rfl) (by kernel_rfl) (by kernel_rfl) (fun _ _ _ h => h) (Or.inl ⟨by rfl, ?_⟩) (by assumption) ?_
          rotate_left
          · intro w9 hSw
            go_simp
            first | done | with_reducible rfl
          simp only [Act.put, List.setIfInBounds_toArray, List.set_cons_zero, List.set_cons_succ]
          refine take' 10 (v := ?_) rfl (by kernel_rfl) (by kernel_rfl) (by kernel_rfl) (fun _ _ _ h => h) (Or.inl ⟨by rfl, ?_⟩) (by assumption) ?_
          rotate_left
          · intro w9 hSw
            go_simp
            first | done | with_reducible rfl
          simp only [Act.put, List.setIfInBounds_toArray, List.set_cons_zero, List.set_cons_succ]
          refine take' 11 (v := ?_) rfl (by kernel_rfl) (by kernel_rfl) (by kernel_rfl) (fun _ _ _ h => h) (Or.inl ⟨by rfl, ?_⟩) (by assumption) ?_
          rotate_left
          · intro w9 hSw
            go_simp
            first | done | with_reducible rfl
          simp only [Act.put, List.setIfInBounds_toArray, List.set_cons_zero, List.set_cons_succ]
          refine take' 12 (v := ?_) rfl (by kernel_rfl) (by kernel_rfl) (by kernel_rfl) (fun _ _ _ h => h) (Or.inl ⟨by rfl, ?_⟩) (by assumption) ?_
          rotate_left
          · intro w9 hSw
            go_simp
            first | done | with_reducible rfl
          simp only [Act.put, List.setIfInBounds_toArray, List.set_cons_zero, List.set_cons_succ]
          refine take' 13 (v := ?_) rfl (by kernel_rfl) (by kernel_rfl) (by kernel_rfl) (fun _ _ _ h => h) (Or.inl ⟨by rfl, ?_⟩) (by assumption) ?_
          rotate_left
          · intro w9 hSw
            go_simp
            first | done | with_reducible rfl
          simp only [Act.put, List.setIfInBounds_toArray, List.set_cons_zero, List.set_cons_succ]
          refine take' 14 (v := ?_) rfl (by kernel_rfl) (by kernel_rfl) (by kernel_rfl) (fun _ _ _ h => h) (Or.inl ⟨by rfl, ?_⟩) (by assumption) ?_
          rotate_left
          · intro w9 hSw
            go_simp
            first | done | with_reducible rfl
          simp only [Act.put, List.setIfInBounds_toArray, List.set_cons_zero, List.set_cons_succ]
          refine take' 15 (v := ?_) rfl (by kernel_rfl) (by kernel_rfl) (by kernel_rfl) (fun _ _ _ h => h) (Or.inl ⟨by rfl, ?_⟩) (by assumption) ?_
          rotate_left
          · intro w9 hSw
            go_simp
            first | done | with_reducible rfl
          simp only [Act.put, List.setIfInBounds_toArray, List.set_cons_zero, List.set_cons_succ]
          refine take' 16 (v := ?_) rfl (by kernel_rfl) (by kernel_rfl) (by kernel_rfl) (fun _ _ _ h => h) (Or.inl ⟨by rfl, ?_⟩) (by assumption) ?_
          rotate_left
          · intro w9 hSw
            go_simp
            first | done | with_reducible rfl
          simp only [Act.put, List.setIfInBounds_toArray, List.set_cons_zero, List.set_cons_succ]
          refine take' 17 (v := ?_) rfl (by kernel_rfl) (by kernel_rfl) (by kernel_rfl) (fun _ _ _ h => h) (Or.inl ⟨by rfl, ?_⟩) (by assumption) ?_
          rotate_left
          · intro w9 hSw
            go_simp
            first | done | with_reducible rfl
          simp only [Act.put, List.setIfInBounds_toArray, List.set_cons_zero, List.set_cons_succ]
          refine take' 18 (v := ?_) rfl (by kernel_rfl) (by kernel_rfl) (by kernel_rfl) (fun _ _ _ h => h) (Or.inl ⟨by rfl, ?_⟩) (by assumption) ?_
          rotate_left
          · intro w9 hSw
            go_simp
            first | done | with_reducible rfl
          simp only [Act.put, List.setIfInBounds_toArray, List.set_cons_zero, List.set_cons_succ]
          refine take' 19 (v := ?_) rfl (by kernel_rfl) (by kernel_rfl) (by kernel_rfl) (fun _ _ _ h => h) (Or.inl ⟨by rfl, ?_⟩) (by assumption) ?_
          rotate_left
          · intro w9 hSw
            go_simp
            first | done | with_reducible rfl
          simp only [Act.put, List.setIfInBounds_toArray, List.set_cons_zero, List.set_cons_succ]
          refine take' 20 (v := ?_) rfl (by kernel_rfl) (by kernel_rfl) (by kernel_rfl) (fun _ _ _ h => h) (Or.inl ⟨by rfl, ?_⟩) (by assumption) ?_
          rotate_left
          · intro w9 hSw
            go_simp
            first | done | with_reducible rfl
          simp only [Act.put, List.setIfInBounds_toArray, List.set_cons_zero, List.set_cons_succ]
          refine wpAnyH_ready (rs := [4, 21]) (by kernel_rfl) (by simp) ?_
          refine consT rfl (fun KK hKK => ?_) ?_
          · skip
            go_simp
            refine hKK.out _ _ hHeld ?_
            clear hHeld
            intro hHeld
            clear hKK KK
            try simp only [Act.put, List.setIfInBounds_toArray, List.set_cons_zero, List.set_cons_succ]
            refine wpAnyH_ready (rs := [21]) (by kernel_rfl) (by simp) ?_
            refine cons' rfl (fun KK hKK => ?_)
            go_simp
            refine (GL.out _).mono ?_
            rintro e w9 ⟨rfl, hw9⟩
            rw [hw9]
            clear hw9 w9
            go_wp2_with fail
            refine hKK.out _ _ hHeld ?_
            clear hHeld
            intro hHeld
            clear hKK KK
            try simp only [Act.put, List.setIfInBounds_toArray, List.set_cons_zero, List.set_cons_succ]
            refine take' 22 (v := ?_) rfl (by kernel_rfl) (by kernel_rfl) (by kernel_rfl) (fun _ _ _ h => h) (Or.inl ⟨by rfl, ?_⟩) (by assumption) ?_
            rotate_left
            · intro w9 hSw
              go_simp
              first | done | with_reducible rfl
            simp only [Act.put, List.setIfInBounds_toArray, List.set_cons_zero, List.set_cons_succ]
            refine take' 23 (v := ?_) rfl (by kernel_rfl) (by kernel_rfl) (by kernel_rfl) (fun _ _ _ h => h) (Or.inl ⟨by rfl, ?_⟩) (by assumption) ?_
            rotate_left
            · intro w9 hSw
              go_simp
              first | done | with_reducible rfl
            simp only [Act.put, List.setIfInBounds_toArray, List.set_cons_zero, List.set_cons_succ]
            refine wpAnyH_ready (rs := [24]) (by kernel_rfl) (by simp) ?_
            refine cons' rfl (fun KK hKK => ?_)
            refine step_append_zero rfl _ _ _ (by rfl) 0 3 ii 1 Try.underlying40 hii (.slice V2.fr.at' x.fr.length V2.fr.c) x.fr.length (iv x.fr) (by rfl) h3.rfr.1 sv.at' sv.c (by rfl) ?_
            have P9 := h3.keep_fr
            change UM (w4.setCell ⟨b, 5, none⟩ (.slice V2.fr.at' x.fr.length V2.fr.c)) ow2 b V2 x ∧ Step ow2 ow2 w4 (w4.setCell ⟨b, 5, none⟩ (.slice V2.fr.at' x.fr.length V2.fr.c)) at P9
            have fz := fun o => h3.cells.2.1.frozen o
            have HX := hide' (show UM _ ow2 b V2 { x with fr := x.fr ++ L } ∧ Step ow ow2 w _ from ⟨by have e : L = [] := List.length_eq_zero_iff.1 hz; rw [e, List.append_nil]; exact P9.1, S4.out.trans ((Step.of_below bT).trans P9.2)⟩)
            clear P9
            refine hKK.out _ _ hHeld ?_
            clear hHeld
            intro hHeld
            clear hKK KK
            try simp only [Act.put, List.setIfInBounds_toArray, List.set_cons_zero, List.set_cons_succ]
            clear h3 hRR3 bT
            refine take' 25 (v := ?_) rfl (by kernel_rfl) (by kernel_rfl) (by kernel_rfl) (fun _ _ _ h => h) (Or.inl ⟨by rfl, ?_⟩) (by assumption) ?_
            rotate_left
            · intro w9 hSw
              go_simp
              first | done | with_reducible rfl
            simp only [Act.put, List.setIfInBounds_toArray, List.set_cons_zero, List.set_cons_succ]
            refine take' 26 (v := ?_) rfl (by kernel_rfl) (by kernel_rfl) (by kernel_rfl) (fun _ _ _ h => h) (Or.inl ⟨by rfl, ?_⟩) (by assumption) ?_
            rotate_left
            · intro w9 hSw
              go_simp
              first | done | with_reducible rfl
            simp only [Act.put, List.setIfInBounds_toArray, List.set_cons_zero, List.set_cons_succ]
            refine wpAnyH_ready (rs := [27]) (by kernel_rfl) (by simp) ?_
            refine cons' rfl (fun KK hKK => ?_)
            have hbM : gM ≠ b := fun e => by have h1 := hoM.out; rw [e, hoB.out] at h1; cases h1
            have hbW : gW ≠ b := fun e => by have h1 := hoW.out; rw [e, hoB.out] at h1; cases h1
            have j0 := (cell_set_other (o := 5) (v := .slice V2.fr.at' x.fr.length V2.fr.c) (by decide)).trans hHeld.1
            have j1 := (cell_set_other (o := 5) (v := .slice V2.fr.at' x.fr.length V2.fr.c) (by decide)).trans hHeld.2.1
            have j2 := (cell_set_other (o := 5) (v := .slice V2.fr.at' x.fr.length V2.fr.c) (by decide)).trans hHeld.2.2.1
            have j3 := cell_far9 (o := 5) (v := .slice V2.fr.at' x.fr.length V2.fr.c) hHeld.2.2.2.1 hbM
            have j4 := cell_far9 (o := 5) (v := .slice V2.fr.at' x.fr.length V2.fr.c) hHeld.2.2.2.2 hbW
            go_simp
            refine hKK.out _ _ ⟨j0, j1, j2, j3, j4⟩ ?_
            clear hHeld
            intro hHeld
            clear hKK KK
            try simp only [Act.put, List.setIfInBounds_toArray, List.set_cons_zero, List.set_cons_succ]
            clear j0 j1 j2 j3 j4 hbM hbW fz k5
            refine wpAnyH_done (by kernel_rfl) ?_ _
            clear hHeld
            have n4 := HX.out.1.cells.2.2.2.2.2.2.1
            change World.cell? _ _ = some (.int .i64 (x.fo : Int)) at n4
            rw [HE.out.1] at n4
            have nz := fun o => HX.out.1.cells.2.1.frozen o
            have P5 := HX.out.1.set_fo (fo + 1)
            have E5 : ({ { x with fr := x.fr ++ L } with fo := fo + 1 } : US) = folU x := by rw [HFe.out, HE.out.1]
            rw [E5] at P5
            clear E5
            have hfoL : fo ≤ 262143 := by have := HN.out.2.1; rw [HE.out.1, HE.out.2.1] at this; omega
            have HP := hide' (And.intro P5.1 (HX.out.2.trans P5.2))
            clear P5
            have hm9 := foAt_is HP.out.1.cells.2.2.2.2.2.2.1
            change foAt b _ = (262145 - ((x.fo + 1 : Nat) : Int)).toNat at hm9
            rw [HE.out.1] at hm9
            replace hm9 := hide' hm9
            have HZ := hide' (show foAt b wr = (262145 - (fo : Int)).toNat from by rw [HM0.out, ← Hfo.out, HE.out.1])
            go_wp2_with fail
            go_roundw
            case rel => exact ⟨_, _, folU x, HF.out, HP.out.1, HP.out.2, HI.out.2.1.trans (fol_ex x)⟩
            case measure => exact meas hm9.out HZ.out (by omega)
          refine consT rfl (fun KK hKK => ?_) ?_
          · skip
            go_simp
            refine (GL.out _).mono ?_
            rintro e w9 ⟨rfl, hw9⟩
            rw [hw9]
            clear hw9 w9
            go_wp2_with fail
            refine hKK.out _ _ hHeld ?_
            clear hHeld
            intro hHeld
            clear hKK KK
            try simp only [Act.put, List.setIfInBounds_toArray, List.set_cons_zero, List.set_cons_succ]
            refine take' 22 (v := ?_) rfl (by kernel_rfl) (by kernel_rfl) (by kernel_rfl) (fun _ _ _ h => h) (Or.inl ⟨by rfl, ?_⟩) (by assumption) ?_
            rotate_left
            · intro w9 hSw
              go_simp
              first | done | with_reducible rfl
            simp only [Act.put, List.setIfInBounds_toArray, List.set_cons_zero, List.set_cons_succ]
            refine take' 23 (v := ?_) rfl (by kernel_rfl) (by kernel_rfl) (by kernel_rfl) (fun _ _ _ h => h) (Or.inl ⟨by rfl, ?_⟩) (by assumption) ?_
            rotate_left
            · intro w9 hSw
              go_simp
              first | done | with_reducible rfl
            simp only [Act.put, List.setIfInBounds_toArray, List.set_cons_zero, List.set_cons_succ]
            refine wpAnyH_ready (rs := [4]) (by kernel_rfl) (by simp) ?_
            refine cons' rfl (fun KK hKK => ?_)
            go_simp
            refine hKK.out _ _ hHeld ?_
            clear hHeld
            intro hHeld
            clear hKK KK
            try simp only [Act.put, List.setIfInBounds_toArray, List.set_cons_zero, List.set_cons_succ]
            refine wpAnyH_ready (rs := [24]) (by kernel_rfl) (by simp) ?_
            refine cons' rfl (fun KK hKK => ?_)
            refine step_append_zero rfl _ _ _ (by rfl) 0 3 ii 1 Try.underlying40 hii (.slice V2.fr.at' x.fr.length V2.fr.c) x.fr.length (iv x.fr) (by rfl) h3.rfr.1 sv.at' sv.c (by rfl) ?_
            have P9 := h3.keep_fr
            change UM (w4.setCell ⟨b, 5, none⟩ (.slice V2.fr.at' x.fr.length V2.fr.c)) ow2 b V2 x ∧ Step ow2 ow2 w4 (w4.setCell ⟨b, 5, none⟩ (.slice V2.fr.at' x.fr.length V2.fr.c)) at P9
            have fz := fun o => h3.cells.2.1.frozen o
            have HX := hide' (show UM _ ow2 b V2 { x with fr := x.fr ++ L } ∧ Step ow ow2 w _ from ⟨by have e : L = [] := List.length_eq_zero_iff.1 hz; rw [e, List.append_nil]; exact P9.1, S4.out.trans ((Step.of_below bT).trans P9.2)⟩)
            clear P9
            refine hKK.out _ _ hHeld ?_
            clear hHeld
            intro hHeld
            clear hKK KK
            try simp only [Act.put, List.setIfInBounds_toArray, List.set_cons_zero, List.set_cons_succ]
            clear h3 hRR3 bT
            refine take' 25 (v := ?_) rfl (by kernel_rfl) (by kernel_rfl) (by kernel_rfl) (fun _ _ _ h => h) (Or.inl ⟨by rfl, ?_⟩) (by assumption) ?_
            rotate_left
            · intro w9 hSw
              go_simp
              first | done | with_reducible rfl
            simp only [Act.put, List.setIfInBounds_toArray, List.set_cons_zero, List.set_cons_succ]
            refine take' 26 (v := ?_) rfl (by kernel_rfl) (by kernel_rfl) (by kernel_rfl) (fun _ _ _ h => h) (Or.inl ⟨by rfl, ?_⟩) (by assumption) ?_
            rotate_left
            · intro w9 hSw
              go_simp
              first | done | with_reducible rfl
            simp only [Act.put, List.setIfInBounds_toArray, List.set_cons_zero, List.set_cons_succ]
            refine wpAnyH_ready (rs := [27]) (by kernel_rfl) (by simp) ?_
            refine cons' rfl (fun KK hKK => ?_)
            have hbM : gM ≠ b := fun e => by have h1 := hoM.out; rw [e, hoB.out] at h1; cases h1
            have hbW : gW ≠ b := fun e => by have h1 := hoW.out; rw [e, hoB.out] at h1; cases h1
            have j0 := (cell_set_other (o := 5) (v := .slice V2.fr.at' x.fr.length V2.fr.c) (by decide)).trans hHeld.1
            have j1 := (cell_set_other (o := 5) (v := .slice V2.fr.at' x.fr.length V2.fr.c) (by decide)).trans hHeld.2.1
            have j2 := (cell_set_other (o := 5) (v := .slice V2.fr.at' x.fr.length V2.fr.c) (by decide)).trans hHeld.2.2.1
            have j3 := cell_far9 (o := 5) (v := .slice V2.fr.at' x.fr.length V2.fr.c) hHeld.2.2.2.1 hbM
            have j4 := cell_far9 (o := 5) (v := .slice V2.fr.at' x.fr.length V2.fr.c) hHeld.2.2.2.2 hbW
            go_simp
            refine hKK.out _ _ ⟨j0, j1, j2, j3, j4⟩ ?_
            clear hHeld
            intro hHeld
            clear hKK KK
            try simp only [Act.put, List.setIfInBounds_toArray, List.set_cons_zero, List.set_cons_succ]
            clear j0 j1 j2 j3 j4 hbM hbW fz k5
            refine wpAnyH_done (by kernel_rfl) ?_ _
            clear hHeld
            have n4 := HX.out.1.cells.2.2.2.2.2.2.1
            change World.cell? _ _ = some (.int .i64 (x.fo : Int)) at n4
            rw [HE.out.1] at n4
            have nz := fun o => HX.out.1.cells.2.1.frozen o
            have P5 := HX.out.1.set_fo (fo + 1)
            have E5 : ({ { x with fr := x.fr ++ L } with fo := fo + 1 } : US) = folU x := by rw [HFe.out, HE.out.1]
            rw [E5] at P5
            clear E5
            have hfoL : fo ≤ 262143 := by have := HN.out.2.1; rw [HE.out.1, HE.out.2.1] at this; omega
            have HP := hide' (And.intro P5.1 (HX.out.2.trans P5.2))
            clear P5
            have hm9 := foAt_is HP.out.1.cells.2.2.2.2.2.2.1
            change foAt b _ = (262145 - ((x.fo + 1 : Nat) : Int)).toNat at hm9
            rw [HE.out.1] at hm9
            replace hm9 := hide' hm9
            have HZ := hide' (show foAt b wr = (262145 - (fo : Int)).toNat from by rw [HM0.out, ← Hfo.out, HE.out.1])
            go_wp2_with fail
            go_roundw
            case rel => exact ⟨_, _, folU x, HF.out, HP.out.1, HP.out.2, HI.out.2.1.trans (fol_ex x)⟩
            case measure => exact meas hm9.out HZ.out (by omega)
          exact AllReadyH.nil
        · skip
          obtain ⟨gR, hgR⟩ := hRR3.got (by omega)
          rw [SlV.val_some hgR] at kw
          have hoR := hRR3.2 gR hgR
          replace hoR := hide' hoR
          go_wp2_with fail
          have bT : Below w3.heap.size w3 w3 := Below.refl _ _
          have bD : Below w3.heap.size w3 w3.drew := (Below.refl _ _).drew
          have kk3 := below_cell bD k3
          have kk1 := below_cell bD k1
          have kk4 := below_cell bD k4
          have khkl := below_cell bD hkl
          have kkw := below_cell bD kw
          replace bT := bT.trans (bD.mono bT.size)
          replace h3 := h3.later bD
          replace hRR3 := hRR3.later bD
          replace k5 := below_cell bD k5
          refine wp_region_held_drew (S := fun w' => w'.cell? ⟨b, 3, none⟩ = some (.slice (some ⟨gW, 0, none⟩) wl V2.ws.c) ∧ w'.cell? ⟨b, 1, none⟩ = some (.slice (some ⟨gM, 0, none⟩) ml V2.mks.c) ∧ w'.cell? ⟨b, 4, none⟩ = some (.int .i64 fo) ∧ w'.cell? ⟨gM, fo * 3, none⟩ = some (.int .i64 y) ∧ w'.cell? ⟨gW, i, none⟩ = some (.slice (some ⟨gR, 0, none⟩) L.length sv.c)) (by kernel_rfl) ⟨kk3, kk1, kk4, khkl, kkw⟩ (fun hHeld => ?_)
          clear kk3 kk1 kk4 khkl kkw
          generalize w3.drew = w4 at bD h3 hRR3 k5 bT hHeld ⊢
          clear bD k3 k1 k4 hkl kw
          refine take' 0 (v := ?_) rfl (by kernel_rfl) (by kernel_rfl) (by kernel_rfl) (fun _ _ _ h => h) (Or.inl ⟨by rfl, ?_⟩) (by assumption) ?_
          rotate_left
          · intro w9 hSw
            go_simp
            first | done | with_reducible rfl
          simp only [Act.put, List.setIfInBounds_toArray, List.set_cons_zero, List.set_cons_succ]
          refine take' 1 (v := ?_) rfl (by kernel_rfl) (by kernel_rfl) (by kernel_rfl) (fun _ _ _ h => h) (Or.inl ⟨by rfl, ?_⟩) (by assumption) ?_
          rotate_left
          · intro w9 hSw
            go_simp
            first | done | with_reducible rfl
          simp only [Act.put, List.setIfInBounds_toArray, List.set_cons_zero, List.set_cons_succ]
          refine take' 2 (v := ?_) rfl (by kernel_rfl) (by kernel_rfl) (by kernel_rfl) (fun _ _ _ h => h) (Or.inl ⟨by rfl, ?_⟩) (by assumption) ?_
          rotate_left
          · intro w9 hSw
            go_simp
            first | done | with_reducible rfl
          simp only [Act.put, List.setIfInBounds_toArray, List.set_cons_zero, List.set_cons_succ]
          refine take' 3 (v := ?_) rfl (by kernel_rfl) (by kernel_rfl) (by kernel_rfl) (fun _ _ _ h => h) (Or.inl ⟨by rfl, ?_⟩) (by assumption) ?_
          rotate_left
          · intro w9 hSw
            go_simp
            first | done | with_reducible rfl
          simp only [Act.put, List.setIfInBounds_toArray, List.set_cons_zero, List.set_cons_succ]
          refine take' 5 (v := ?_) rfl (by kernel_rfl) (by kernel_rfl) (by kernel_rfl) (fun _ _ _ h => h) (Or.inl ⟨by rfl, ?_⟩) (by assumption) ?_
          rotate_left
          · intro w9 hSw
            go_simp
            first | done | with_reducible rfl
          simp only [Act.put, List.setIfInBounds_toArray, List.set_cons_zero, List.set_cons_succ]
          refine take' 6 (v := ?_) rfl (by kernel_rfl) (by kernel_rfl) (by kernel_rfl) (fun _ _ _ h => h) (Or.inl ⟨by rfl, ?_⟩) (by assumption) ?_
          rotate_left
          · intro w9 hSw
            go_simp
            first | done | with_reducible rfl
          simp only [Act.put, List.setIfInBounds_toArray, List.set_cons_zero, List.set_cons_succ]
          refine take' 7 (v := ?_) rfl (by kernel_rfl) (by kernel_rfl) (by kernel_rfl) (fun _ _ _ h => h) (Or.inl ⟨by rfl, ?_⟩) (by assumption) ?_
          rotate_left
          · intro w9 hSw
            go_simp
            first | done | with_reducible rfl
          simp only [Act.put, List.setIfInBounds_toArray, List.set_cons_zero, List.set_cons_succ]
          refine take' 8 (v := ?_) rfl (by kernel_rfl) (by kernel_rfl) (by kernel_rfl) (fun _ _ _ h => h) (Or.inl ⟨by rfl, ?_⟩) (by assumption) ?_
          rotate_left
          · intro w9 hSw
            go_simp
            first | done | with_reducible rfl
          simp only [Act.put, List.setIfInBounds_toArray, List.set_cons_zero, List.set_cons_succ]
          refine take' 9 (v := ?_) rfl (by kernel_rfl) (by kernel_rfl) (by kernel_rfl) (fun _ _ _ h => h) (Or.inl ⟨by rfl, ?_⟩) (by assumption) ?_
          rotate_left
          · intro w9 hSw
            go_simp
            first | done | with_reducible rfl
          simp only [Act.put, List.setIfInBounds_toArray, List.set_cons_zero, List.set_cons_succ]
          refine take' 10 (v := ?_) rfl (by kernel_rfl) (by kernel_rfl) (by kernel_rfl) (fun _ _ _ h => h) (Or.inl ⟨by rfl, ?_⟩) (by assumption) ?_
          rotate_left
          · intro w9 hSw
            go_simp
            first | done | with_reducible rfl
          simp only [Act.put, List.setIfInBounds_toArray, List.set_cons_zero, List.set_cons_succ]
          refine take' 11 (v := ?_) rfl (by kernel_rfl) (by kernel_rfl) (by kernel_rfl) (fun _ _ _ h => h) (Or.inl ⟨by rfl, ?_⟩) (by assumption) ?_
          rotate_left
          · intro w9 hSw
            go_simp
            first | done | with_reducible rfl
          simp only [Act.put, List.setIfInBounds_toArray, List.set_cons_zero, List.set_cons_succ]
          refine take' 12 (v := ?_) rfl (by kernel_rfl) (by kernel_rfl) (by kernel_rfl) (fun _ _ _ h => h) (Or.inl ⟨by rfl, ?_⟩) (by assumption) ?_
          rotate_left
          · intro w9 hSw
            go_simp
            first | done | with_reducible rfl
          simp only [Act.put, List.setIfInBounds_toArray, List.set_cons_zero, List.set_cons_succ]
          refine take' 13 (v := ?_) rfl (by kernel_rfl) (by kernel_rfl) (by kernel_rfl) (fun _ _ _ h => h) (Or.inl ⟨by rfl, ?_⟩) (by assumption) ?_
          rotate_left
          · intro w9 hSw
            go_simp
            first | done | with_reducible rfl
          simp only [Act.put, List.setIfInBounds_toArray, List.set_cons_zero, List.set_cons_succ]
          refine take' 14 (v := ?_) rfl (by kernel_rfl) (by kernel_rfl) (by kernel_rfl) (fun _ _ _ h => h) (Or.inl ⟨by rfl, ?_⟩) (by assumption) ?_
          rotate_left
          · intro w9 hSw
            go_simp
            first | done | with_reducible rfl
          simp only [Act.put, List.setIfInBounds_toArray, List.set_cons_zero, List.set_cons_succ]
          refine take' 15 (v := ?_) rfl (by kernel_rfl) (by kernel_rfl) (by kernel_rfl) (fun _ _ _ h => h) (Or.inl ⟨by rfl, ?_⟩) (by assumption) ?_
          rotate_left
          · intro w9 hSw
            go_simp
            first | done | with_reducible rfl
          simp only [Act.put, List.setIfInBounds_toArray, List.set_cons_zero, List.set_cons_succ]
          refine take' 16 (v := ?_) rfl (by kernel_rfl) (by kernel_rfl) (by kernel_rfl) (fun _ _ _ h => h) (Or.inl ⟨by rfl, ?_⟩) (by assumption) ?_
          rotate_left
          · intro w9 hSw
            go_simp
            first | done | with_reducible rfl
          simp only [Act.put, List.setIfInBounds_toArray, List.set_cons_zero, List.set_cons_succ]
          refine take' 17 (v := ?_) rfl (by kernel_rfl) (by kernel_rfl) (by kernel_rfl) (fun _ _ _ h => h) (Or.inl ⟨by rfl, ?_⟩) (by assumption) ?_
          rotate_left
          · intro w9 hSw
            go_simp
            first | done | with_reducible rfl
          simp only [Act.put, List.setIfInBounds_toArray, List.set_cons_zero, List.set_cons_succ]
          refine take' 18 (v := ?_) rfl (by kernel_rfl) (by kernel_rfl) (by kernel_rfl) (fun _ _ _ h => h) (Or.inl ⟨by rfl, ?_⟩) (by assumption) ?_
          rotate_left
          · intro w9 hSw
            go_simp
            first | done | with_reducible rfl
          simp only [Act.put, List.setIfInBounds_toArray, List.set_cons_zero, List.set_cons_succ]
          refine take' 19 (v := ?_) rfl (by kernel_rfl) (by kernel_rfl) (by kernel_rfl) (fun _ _ _ h => h) (Or.inl ⟨by rfl, ?_⟩) (by assumption) ?_
          rotate_left
          · intro w9 hSw
            go_simp
            first | done | with_reducible rfl
          simp only [Act.put, List.setIfInBounds_toArray, List.set_cons_zero, List.set_cons_succ]
          refine take' 20 (v := ?_) rfl (by kernel_rfl) (by kernel_rfl) (by kernel_rfl) (fun _ _ _ h => h) (Or.inl ⟨by rfl, ?_⟩) (by assumption) ?_
          rotate_left
          · intro w9 hSw
            go_simp
            first | done | with_reducible rfl
          simp only [Act.put, List.setIfInBounds_toArray, List.set_cons_zero, List.set_cons_succ]
          refine wpAnyH_ready (rs := [4, 21]) (by kernel_rfl) (by simp) ?_
          refine consT rfl (fun KK hKK => ?_) ?_
          · skip
            go_simp
            refine hKK.out _ _ hHeld ?_
            clear hHeld
            intro hHeld
            clear hKK KK
            try simp only [Act.put, List.setIfInBounds_toArray, List.set_cons_zero, List.set_cons_succ]
            refine wpAnyH_ready (rs := [21]) (by kernel_rfl) (by simp) ?_
            refine cons' rfl (fun KK hKK => ?_)
            go_simp
            refine (GL.out _).mono ?_
            rintro e w9 ⟨rfl, hw9⟩
            rw [hw9]
            clear hw9 w9
            go_wp2_with fail
            refine hKK.out _ _ hHeld ?_
            clear hHeld
            intro hHeld
            clear hKK KK
            try simp only [Act.put, List.setIfInBounds_toArray, List.set_cons_zero, List.set_cons_succ]
            refine take' 22 (v := ?_) rfl (by kernel_rfl) (by kernel_rfl) (by kernel_rfl) (fun _ _ _ h => h) (Or.inl ⟨by rfl, ?_⟩) (by assumption) ?_
            rotate_left
            · intro w9 hSw
              go_simp
              first | done | with_reducible rfl
            simp only [Act.put, List.setIfInBounds_toArray, List.set_cons_zero, List.set_cons_succ]
            refine take' 23 (v := ?_) rfl (by kernel_rfl) (by kernel_rfl) (by kernel_rfl) (fun _ _ _ h => h) (Or.inl ⟨by rfl, ?_⟩) (by assumption) ?_
            rotate_left
            · intro w9 hSw
              go_simp
              first | done | with_reducible rfl
            simp only [Act.put, List.setIfInBounds_toArray, List.set_cons_zero, List.set_cons_succ]
            refine wpAnyH_ready (rs := [24]) (by kernel_rfl) (by simp) ?_
            refine cons' rfl (fun KK hKK => ?_)
            have hl1 : x.fr.length + L.length ≤ maxLen := by have := HM.out; have := HLl.out; omega
            have hl2 : (x.fr.length + L.length) * 8 ≤ 140737488355328 := by have := HLl.out; omega
            refine step_append_lies _ (by rfl) _ _ _ (by rfl) 0 3 ii _ 1 8 Try.underlying40 hii hiz his hib rfl (by omega) (V2.fr.val x.fr.length) x.fr.length (iv x.fr) (by rfl) h3.rfr.1 ⟨gR, 0, none⟩ L.length sv.c (iv L) (by rfl) (by rw [iv_length]; omega) (hRR3.news hgR (by rw [iv_length])) (by simp [iv, Value.oneCell']) (by omega) hl1 hl2 (Nat.zero_le _) _ rfl ?_
            intro gb cap w8 hown hgrow hat hlt9
            have RR := UM.app_fr (zs := L) h3 hown rfl hgrow hat rfl hlt9
            have HA := (RowAt.app h3.rfr hown hgrow hat rfl hlt9).2
            have P4 := (h3.part .st).app HA (by simp)
            have q5 := P4.2.2.2.2.2.2.2.1
            have fz := fun o => P4.2.1.frozen o
            have j0 := HA.cell hHeld.1 (by rw [hoB.out]; simp)
            have j1 := HA.cell hHeld.2.1 (by rw [hoB.out]; simp)
            have j2 := HA.cell hHeld.2.2.1 (by rw [hoB.out]; simp)
            have j3 := HA.cell hHeld.2.2.2.1 (by rw [hoM.out]; simp)
            have j4 := HA.cell hHeld.2.2.2.2 (by rw [hoW.out]; simp)
            have HX := hide' (show UM _ (setO ow2 gb .fr) b { V2 with fr := ⟨some gb, cap⟩ } { x with fr := x.fr ++ L } ∧ Step ow (setO ow2 gb .fr) w _ from ⟨RR.1, S4.out.trans ((Step.of_below bT).trans ⟨RR.2.1, RR.2.2⟩)⟩)
            clear RR HA P4 hown hgrow hat hlt9 hl1 hl2
            refine hKK.out _ _ ⟨j0, j1, j2, j3, j4⟩ ?_
            clear hHeld
            intro hHeld
            clear hKK KK
            try simp only [Act.put, List.setIfInBounds_toArray, List.set_cons_zero, List.set_cons_succ]
            clear j0 j1 j2 j3 j4
            clear h3 hRR3 bT k5
            refine take' 25 (v := ?_) rfl (by kernel_rfl) (by kernel_rfl) (by kernel_rfl) (fun _ _ _ h => h) (Or.inl ⟨by rfl, ?_⟩) (by assumption) ?_
            rotate_left
            · intro w9 hSw
              go_simp
              first | done | with_reducible rfl
            simp only [Act.put, List.setIfInBounds_toArray, List.set_cons_zero, List.set_cons_succ]
            refine take' 26 (v := ?_) rfl (by kernel_rfl) (by kernel_rfl) (by kernel_rfl) (fun _ _ _ h => h) (Or.inl ⟨by rfl, ?_⟩) (by assumption) ?_
            rotate_left
            · intro w9 hSw
              go_simp
              first | done | with_reducible rfl
            simp only [Act.put, List.setIfInBounds_toArray, List.set_cons_zero, List.set_cons_succ]
            refine wpAnyH_ready (rs := [27]) (by kernel_rfl) (by simp) ?_
            refine cons' rfl (fun KK hKK => ?_)
            have hbM : gM ≠ b := fun e => by have h1 := hoM.out; rw [e, hoB.out] at h1; cases h1
            have hbW : gW ≠ b := fun e => by have h1 := hoW.out; rw [e, hoB.out] at h1; cases h1
            have j0 := (cell_set_other (o := 5) (v := .slice (some ⟨gb, 0, none⟩) (x.fr.length + L.length) cap) (by decide)).trans hHeld.1
            have j1 := (cell_set_other (o := 5) (v := .slice (some ⟨gb, 0, none⟩) (x.fr.length + L.length) cap) (by decide)).trans hHeld.2.1
            have j2 := (cell_set_other (o := 5) (v := .slice (some ⟨gb, 0, none⟩) (x.fr.length + L.length) cap) (by decide)).trans hHeld.2.2.1
            have j3 := cell_far9 (o := 5) (v := .slice (some ⟨gb, 0, none⟩) (x.fr.length + L.length) cap) hHeld.2.2.2.1 hbM
            have j4 := cell_far9 (o := 5) (v := .slice (some ⟨gb, 0, none⟩) (x.fr.length + L.length) cap) hHeld.2.2.2.2 hbW
            go_simp
            refine hKK.out _ _ ⟨j0, j1, j2, j3, j4⟩ ?_
            clear hHeld
            intro hHeld
            clear hKK KK
            try simp only [Act.put, List.setIfInBounds_toArray, List.set_cons_zero, List.set_cons_succ]
            clear j0 j1 j2 j3 j4 hbM hbW fz q5
            refine wpAnyH_done (by kernel_rfl) ?_ _
            clear hHeld
            have n4 := HX.out.1.cells.2.2.2.2.2.2.1
            change World.cell? _ _ = some (.int .i64 (x.fo : Int)) at n4
            rw [HE.out.1] at n4
            have nz := fun o => HX.out.1.cells.2.1.frozen o
            have P5 := HX.out.1.set_fo (fo + 1)
            have E5 : ({ { x with fr := x.fr ++ L } with fo := fo + 1 } : US) = folU x := by rw [HFe.out, HE.out.1]
            rw [E5] at P5
            clear E5
            have hfoL : fo ≤ 262143 := by have := HN.out.2.1; rw [HE.out.1, HE.out.2.1] at this; omega
            have HP := hide' (And.intro P5.1 (HX.out.2.trans P5.2))
            clear P5
            have hm9 := foAt_is HP.out.1.cells.2.2.2.2.2.2.1
            change foAt b _ = (262145 - ((x.fo + 1 : Nat) : Int)).toNat at hm9
            rw [HE.out.1] at hm9
            replace hm9 := hide' hm9
            have HZ := hide' (show foAt b wr = (262145 - (fo : Int)).toNat from by rw [HM0.out, ← Hfo.out, HE.out.1])
            go_wp2_with fail
            go_roundw
            case rel => exact ⟨_, _, folU x, HF.out, HP.out.1, HP.out.2, HI.out.2.1.trans (fol_ex x)⟩
            case measure => exact meas hm9.out HZ.out (by omega)
          refine consT rfl (fun KK hKK => ?_) ?_
          · skip
            go_simp
            refine (GL.out _).mono ?_
            rintro e w9 ⟨rfl, hw9⟩
            rw [hw9]
            clear hw9 w9
            go_wp2_with fail
            refine hKK.out _ _ hHeld ?_
            clear hHeld
            intro hHeld
            clear hKK KK
            try simp only [Act.put, List.setIfInBounds_toArray, List.set_cons_zero, List.set_cons_succ]
            refine take' 22 (v := ?_) rfl (by kernel_rfl) (by kernel_rfl) (by kernel_rfl) (fun _ _ _ h => h) (Or.inl ⟨by rfl, ?_⟩) (by assumption) ?_
            rotate_left
            · intro w9 hSw
              go_simp
              first | done | with_reducible rfl
            simp only [Act.put, List.setIfInBounds_toArray, List.set_cons_zero, List.set_cons_succ]
            refine take' 23 (v := ?_) rfl (by kernel_rfl) (by kernel_rfl) (by kernel_rfl) (fun _ _ _ h => h) (Or.inl ⟨by rfl, ?_⟩) (by assumption) ?_
            rotate_left
            · intro w9 hSw
              go_simp
              first | done | with_reducible rfl
            simp only [Act.put, List.setIfInBounds_toArray, List.set_cons_zero, List.set_cons_succ]
            refine wpAnyH_ready (rs := [4]) (by kernel_rfl) (by simp) ?_
            refine cons' rfl (fun KK hKK => ?_)
            go_simp
            refine hKK.out _ _ hHeld ?_
            clear hHeld
            intro hHeld
            clear hKK KK
            try simp only [Act.put, List.setIfInBounds_toArray, List.set_cons_zero, List.set_cons_succ]
            refine wpAnyH_ready (rs := [24]) (by kernel_rfl) (by simp) ?_
            refine cons' rfl (fun KK hKK => ?_)
            have hl1 : x.fr.length + L.length ≤ maxLen := by have := HM.out; have := HLl.out; omega
            have hl2 : (x.fr.length + L.length) * 8 ≤ 140737488355328 := by have := HLl.out; omega
            refine step_append_lies _ (by rfl) _ _ _ (by rfl) 0 3 ii _ 1 8 Try.underlying40 hii hiz his hib rfl (by omega) (V2.fr.val x.fr.length) x.fr.length (iv x.fr) (by rfl) h3.rfr.1 ⟨gR, 0, none⟩ L.length sv.c (iv L) (by rfl) (by rw [iv_length]; omega) (hRR3.news hgR (by rw [iv_length])) (by simp [iv, Value.oneCell']) (by omega) hl1 hl2 (Nat.zero_le _) _ rfl ?_
            intro gb cap w8 hown hgrow hat hlt9
            have RR := UM.app_fr (zs := L) h3 hown rfl hgrow hat rfl hlt9
            have HA := (RowAt.app h3.rfr hown hgrow hat rfl hlt9).2
            have P4 := (h3.part .st).app HA (by simp)
            have q5 := P4.2.2.2.2.2.2.2.1
            have fz := fun o => P4.2.1.frozen o
            have j0 := HA.cell hHeld.1 (by rw [hoB.out]; simp)
            have j1 := HA.cell hHeld.2.1 (by rw [hoB.out]; simp)
            have j2 := HA.cell hHeld.2.2.1 (by rw [hoB.out]; simp)
            have j3 := HA.cell hHeld.2.2.2.1 (by rw [hoM.out]; simp)
            have j4 := HA.cell hHeld.2.2.2.2 (by rw [hoW.out]; simp)
            have HX := hide' (show UM _ (setO ow2 gb .fr) b { V2 with fr := ⟨some gb, cap⟩ } { x with fr := x.fr ++ L } ∧ Step ow (setO ow2 gb .fr) w _ from ⟨RR.1, S4.out.trans ((Step.of_below bT).trans ⟨RR.2.1, RR.2.2⟩)⟩)
            clear RR HA P4 hown hgrow hat hlt9 hl1 hl2
            refine hKK.out _ _ ⟨j0, j1, j2, j3, j4⟩ ?_
            clear hHeld
            intro hHeld
            clear hKK KK
            try simp only [Act.put, List.setIfInBounds_toArray, List.set_cons_zero, List.set_cons_succ]
            clear j0 j1 j2 j3 j4
            clear h3 hRR3 bT k5
            refine take' 25 (v := ?_) rfl (by kernel_rfl) (by kernel_rfl) (by kernel_rfl) (fun _ _ _ h => h) (Or.inl ⟨by rfl, ?_⟩) (by assumption) ?_
            rotate_left
            · intro w9 hSw
              go_simp
              first | done | with_reducible rfl
            simp only [Act.put, List.setIfInBounds_toArray, List.set_cons_zero, List.set_cons_succ]
            refine take' 26 (v := ?_) rfl (by kernel_rfl) (by kernel_rfl) (by kernel_rfl) (fun _ _ _ h => h) (Or.inl ⟨by rfl, ?_⟩) (by assumption) ?_
            rotate_left
            · intro w9 hSw
              go_simp
              first | done | with_reducible rfl
            simp only [Act.put, List.setIfInBounds_toArray, List.set_cons_zero, List.set_cons_succ]
            refine wpAnyH_ready (rs := [27]) (by kernel_rfl) (by simp) ?_
            refine cons' rfl (fun KK hKK => ?_)
            have hbM : gM ≠ b := fun e => by have h1 := hoM.out; rw [e, hoB.out] at h1; cases h1
            have hbW : gW ≠ b := fun e => by have h1 := hoW.out; rw [e, hoB.out] at h1; cases h1
            have j0 := (cell_set_other (o := 5) (v := .slice (some ⟨gb, 0, none⟩) (x.fr.length + L.length) cap) (by decide)).trans hHeld.1
            have j1 := (cell_set_other (o := 5) (v := .slice (some ⟨gb, 0, none⟩) (x.fr.length + L.length) cap) (by decide)).trans hHeld.2.1
            have j2 := (cell_set_other (o := 5) (v := .slice (some ⟨gb, 0, none⟩) (x.fr.length + L.length) cap) (by decide)).trans hHeld.2.2.1
            have j3 := cell_far9 (o := 5) (v := .slice (some ⟨gb, 0, none⟩) (x.fr.length + L.length) cap) hHeld.2.2.2.1 hbM
            have j4 := cell_far9 (o := 5) (v := .slice (some ⟨gb, 0, none⟩) (x.fr.length + L.length) cap) hHeld.2.2.2.2 hbW
            go_simp
            refine hKK.out _ _ ⟨j0, j1, j2, j3, j4⟩ ?_
            clear hHeld
            intro hHeld
            clear hKK KK
            try simp only [Act.put, List.setIfInBounds_toArray, List.set_cons_zero, List.set_cons_succ]
            clear j0 j1 j2 j3 j4 hbM hbW fz q5
            refine wpAnyH_done (by kernel_rfl) ?_ _
            clear hHeld
            have n4 := HX.out.1.cells.2.2.2.2.2.2.1
            change World.cell? _ _ = some (.int .i64 (x.fo : Int)) at n4
            rw [HE.out.1] at n4
            have nz := fun o => HX.out.1.cells.2.1.frozen o
            have P5 := HX.out.1.set_fo (fo + 1)
            have E5 : ({ { x with fr := x.fr ++ L } with fo := fo + 1 } : US) = folU x := by rw [HFe.out, HE.out.1]
            rw [E5] at P5
            clear E5
            have hfoL : fo ≤ 262143 := by have := HN.out.2.1; rw [HE.out.1, HE.out.2.1] at this; omega
            have HP := hide' (And.intro P5.1 (HX.out.2.trans P5.2))
            clear P5
            have hm9 := foAt_is HP.out.1.cells.2.2.2.2.2.2.1
            change foAt b _ = (262145 - ((x.fo + 1 : Nat) : Int)).toNat at hm9
            rw [HE.out.1] at hm9
            replace hm9 := hide' hm9
            have HZ := hide' (show foAt b wr = (262145 - (fo : Int)).toNat from by rw [HM0.out, ← Hfo.out, HE.out.1])
            go_wp2_with fail
            go_roundw
            case rel => exact ⟨_, _, folU x, HF.out, HP.out.1, HP.out.2, HI.out.2.1.trans (fol_ex x)⟩
            case measure => exact meas hm9.out HZ.out (by omega)
          exact AllReadyH.nil
    · skip
      have HX := hide' (show TQ (.returned (.int .i64 (n : Int))) w2 from by rw [← hTQ.out]; exact ⟨n, x, ow2, V2, rfl, h2, S3, I2, E3, Or.inr ⟨n, rfl, hB⟩⟩)
      clear h2 S3 I2 E3 hB f2
      have i0 : (n : Int) ≥ 0 := by omega
      go_wp2
      first | exact HX.out | (go_ret; exact HX.out)
end Go.Proofs.Ytfodejhipnmgnaa
