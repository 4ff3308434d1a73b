/-
  units: best.
-/
import Derived.Test.YtfodejhipnmgnaaUF0
namespace Go.Proofs.Ytfodejhipnmgnaa
open Go.RowKit
set_option linter.unusedVariables false
set_option linter.unusedSimpArgs false
theorem results_cell {fn : Func} {p : Tmp} {ty : TypeId} (h : fn.results = #[.cell p ty]) (tmps : Array Value) (P : Program) (w : World) :
    (results fn tmps).run P w = ((asAddr (tmps.getD p undef)).run P w).andThen fun a w1 => (loadVar ty a).run P w1 := by
  simp only [results, h]
  simp [Sem.run_bind]
/-- the search among a clause's literals -/
def bestL (u : US) (l : List Int) : Nat → Nat → PR → PR × Nat
  | 0, nx, p => (p, nx)
  | k + 1, nx, p => if p.f1 = nev then (p, nx) else bestL u l k ((nx + 1) % l.length) (p.offer (l.getD nx 0) (fallsV u (l.getD nx 0)))
theorem bestL_go {u : US} {l : List Int} {j z : Nat} {p : PR} (h : ¬ p.f1 = nev) : bestL u l (j + 1) z p = bestL u l j ((z + 1) % l.length) (p.offer (l.getD z 0) (fallsV u (l.getD z 0))) := by rw [bestL, if_neg h]
theorem bestL_stop {u : US} {l : List Int} {j z : Nat} {p : PR} (h : p.f1 = nev) : bestL u l (j + 1) z p = (p, z) := by rw [bestL, if_pos h]
def p0 : PR := ⟨0, 0, 0, 0⟩
def best0 (u : US) (n : Nat) : PR := (p0.offer (u.cl.getD n default).b0 (fallsV u (u.cl.getD n default).b0)).offer (u.cl.getD n default).b1 (fallsV u (u.cl.getD n default).b1)
def bestR (u : US) (n nx : Nat) : PR × Nat := bestL u (u.cl.getD n default).lits (u.cl.getD n default).lits.length nx (best0 u n)
/-- the clause's place is z now -/
def bu (u : US) (n : Nat) (z : Int) : US := { u with cl := u.cl.set n { u.cl.getD n default with nx := z } }
theorem bu_get (u : US) (n : Nat) (z : Int) (hn : n < u.cl.length) : (bu u n z).cl.getD n default = { u.cl.getD n default with nx := z } := by simp [bu, List.getD, List.getElem?_set_self hn]
theorem bu_bu (u : US) (n : Nat) (z z' : Int) (hn : n < u.cl.length) : bu (bu u n z) n z' = bu u n z' := by
  have e := bu_get u n z hn
  unfold bu at e ⊢
  simp only [e, List.set_set]
theorem bu_self (u : US) (n : Nat) (hn : n < u.cl.length) : bu u n (u.cl.getD n default).nx = u := by
  have e : u.cl.getD n default = u.cl[n] := by simp [List.getD, List.getElem?_eq_getElem hn]
  unfold bu
  rw [e]
  show { u with cl := u.cl.set n u.cl[n] } = u
  rw [List.set_getElem_self]
theorem bu_lk (u : US) (n : Nat) (z : Int) : Lk u (bu u n z) := ⟨rfl, rfl, rfl, rfl, rfl, by simp [bu], rfl⟩
theorem ChB.step {ow : Nat → Tg} {c : Nat} {w w1 w2 : World} (h : Step ow ow w w1) (k : ChB c w1 w2) (hc : w.heap.size ≤ c) : Step ow ow w w2 :=
  ⟨⟨k.os.trans h.chg.os, k.tape.trans h.chg.tape, k.output.trans h.chg.output, Nat.le_trans h.chg.size k.size, fun x hx e => (k.block x (Nat.lt_of_lt_of_le hx h.chg.size) (by omega)).trans (h.chg.block x hx e)⟩, fun _ _ => rfl⟩
theorem UM.chb {w1 w2 : World} {ow : Nat → Tg} {b c : Nat} {V : SV} {u : US} (h : UM w1 ow b V u) (k : ChB c w1 w2) (hc : ow c = .oth) : UM w2 ow b V u := h.keep k.size fun x hx hne => k.block x hx fun e => hne (by rw [e]; exact hc)
theorem PB.chb {w1 w2 : World} {c d : Nat} {p : PR} {t : TypeId} (h : PB w1 d p t) (k : ChB c w1 w2) (hne : d ≠ c) : PB w2 d p t := (k.block d h.lt hne).trans h
theorem pb_put {w : World} {c g o : Nat} {p : PR} {t : TypeId} {v : Value} (h : PB w c p t) (hne : c ≠ g) : PB (w.setCell ⟨g, o, none⟩ v) c p t := (heap_setCell_other _ _ _ _ hne).trans h
set_option maxHeartbeats 8000000 in
set_option maxRecDepth 100000 in
theorem best_is (ow : Nat → Tg) (b : Nat) (V : SV) (u : US) (n gC nx : Nat) (hgC : V.cl.g = some gC) (hn : n < u.cl.length) (hC : u.cl.length ≤ 1048576) (hnx : (u.cl.getD n default).nx = nx) (hnl : 0 < (u.cl.getD n default).lits.length → nx < (u.cl.getD n default).lits.length) (hb0 : InR u (u.cl.getD n default).b0) (hb1 : InR u (u.cl.getD n default).b1) (hli : ∀ y ∈ (u.cl.getD n default).lits, InR u y) (w : World) (h : UM w ow b V u) (hr : Rd u)  :
    Calls Try.prog 61 #[.pointer (some ⟨b, 0, none⟩), .pointer (some ⟨gC, n * 6, none⟩)] w fun e w' => ∃ p nx', bestR u n nx = (p, nx') ∧ e = .returned (.agg #[.int .i64 p.l0, .int .i64 p.l1, .int .i64 p.f0, .int .i64 p.f1]) ∧ UM w' ow b V (bu u n nx') ∧ Step ow ow w w' := by
  have HM := hide' maxLen_is
  obtain ⟨l, hl⟩ : ∃ l, (u.cl.getD n default).lits = l := ⟨_, rfl⟩
  obtain ⟨b0, hbb0⟩ : ∃ z, (u.cl.getD n default).b0 = z := ⟨_, rfl⟩
  obtain ⟨b1, hbb1⟩ : ∃ z, (u.cl.getD n default).b1 = z := ⟨_, rfl⟩
  have hll : l.length ≤ maxLen := by rw [← hl]; exact (h.rlit hn).le
  rw [hl] at hnl hli
  rw [hbb0] at hb0
  rw [hbb1] at hb1
  have EB : bestR u n nx = bestL u l l.length nx ((p0.offer b0 (fallsV u b0)).offer b1 (fallsV u b1)) := by unfold bestR best0; rw [hl, hbb0, hbb1]
  rw [EB]
  clear EB
  obtain ⟨R, hR⟩ : ∃ R, bestL u l l.length nx ((p0.offer b0 (fallsV u b0)).offer b1 (fallsV u b1)) = R := ⟨_, rfl⟩
  rw [hR]
  replace hR := hide' hR
  obtain ⟨wA, hwA⟩ : ∃ wA, w.alloc (.cells #[.int .i64 0, .int .i64 0, .int .i64 0, .int .i64 0] 103) = wA := ⟨_, rfl⟩
  obtain ⟨wB, hwB⟩ : ∃ wB, wA.alloc (.cells #[.int .i64 0, .int .i64 0, .int .i64 0, .int .i64 0] 103) = wB := ⟨_, rfl⟩
  have sA : wA.heap.size = w.heap.size + 1 := by rw [← hwA]; exact size_alloc _ _
  obtain ⟨c, hc⟩ : ∃ c, wA.heap.size = c := ⟨_, rfl⟩
  obtain ⟨d, hd⟩ : ∃ d, w.heap.size = d := ⟨_, rfl⟩
  have hdc : d ≠ c := by omega
  have hcw : w.heap.size ≤ c := by omega
  have hdw : w.heap.size ≤ d := by omega
  have hoc : ow c = .oth := h.hi c hcw
  have hod : ow d = .oth := h.hi d hdw
  have bA : Below w.heap.size w wA := by rw [← hwA]; exact below_alloc _
  have bB : Below wA.heap.size wA wB := by rw [← hwB]; exact below_alloc _
  have pd : PB wB d p0 103 := (by have : PB wA d p0 103 := (by rw [← hwA, ← hd]; exact heap_alloc_new w _); exact this.later bB)
  have pc : PB wB c p0 103 := by rw [← hwB, ← hc]; exact heap_alloc_new wA _
  have bT := bA.trans (bB.mono bA.size)
  have hU := h.later bT
  have S0 : Step ow ow w wB := Step.of_below bT
  clear sA bA bB bT h
  have kb := hU.rcl.cell hgC (j := n * 6 + 1) (by omega)
  rw [(clC_at _ _ n hU.nlv hn).2.1, hbb0] at kb
  have kc := hU.rcl.cell hgC (j := n * 6 + 2) (by omega)
  rw [(clC_at _ _ n hU.nlv hn).2.2.1, hbb1] at kc
  have hi0 := fun w => ix0 w b0 b1
  have hi1 := fun w => ix1 w b0 b1
  replace hc := hide' hc
  have hd2 := hide' hd
  replace hcw := hide' hcw
  replace hdw := hide' hdw
  have HR := hide' hr
  clear hr
  have HL := hide' (And.intro hl (And.intro hbb0 hbb1))
  clear hl hbb0 hbb1
  have HNX := hide' hnx
  clear hnx
  have HC := hide' hc.out
  go_enter Try.func61, Try.ntmps61
  go_wp2_with fail
  try rw [HC.out]
  refine wp_loop_rounds 3 ?_
  have GF := hide' (falls_is ow b V u b0 hb0 wB hU HR.out)
  have GO := hide' (offer_is c (p0) 103 b0 (fallsV u b0) wB pc)
  replace hU := hide' hU
  replace pc := hide' pc
  replace pd := hide' pd
  replace S0 := hide' S0
  rw [rounds_succ]
  go_wp2_with fail
  refine GF.out.mono ?_
  rintro e x0 ⟨rfl, hx0⟩
  rw [hx0]
  clear hx0 x0 GF
  go_wp2_with fail
  refine GO.out.mono ?_
  rintro e y1 ⟨⟨z0, rfl⟩, pc0, ch⟩
  replace hU := hU.out.chb ch hoc
  replace pd := pd.out.chb ch hdc
  replace S0 := ChB.step S0.out ch hcw.out
  clear GO pc ch
  have pc := pc0
  clear pc0
  go_wp2_with fail
  have GF := hide' (falls_is ow b V u b1 hb1 y1 hU HR.out)
  have GO := hide' (offer_is c ((p0).offer b0 (fallsV u b0)) 103 b1 (fallsV u b1) y1 pc)
  replace hU := hide' hU
  replace pc := hide' pc
  replace pd := hide' pd
  replace S0 := hide' S0
  rw [rounds_succ]
  go_wp2_with fail
  refine GF.out.mono ?_
  rintro e x1 ⟨rfl, hx1⟩
  rw [hx1]
  clear hx1 x1 GF
  go_wp2_with fail
  refine GO.out.mono ?_
  rintro e y2 ⟨⟨z1, rfl⟩, pc1, ch⟩
  replace hU := hU.out.chb ch hoc
  replace pd := pd.out.chb ch hdc
  replace S0 := ChB.step S0.out ch hcw.out
  clear GO pc ch
  have pc := pc1
  clear pc1
  go_wp2_with fail
  rw [rounds_succ]
  have kl := hU.rcl.cell hgC (j := n * 6) (by omega)
  rw [(clC_at _ _ n hU.nlv hn).1, HL.out.1] at kl
  unfold SlV.val at kl
  replace hU := hide' hU
  replace pc := hide' pc
  replace pd := hide' pd
  replace S0 := hide' S0
  go_wp2_with fail
  obtain ⟨L, hL⟩ : ∃ L, l.length = L := ⟨_, rfl⟩
  have hU0 : UM y2 ow b V (bu u n nx) := by rw [show bu u n nx = u from by rw [← HNX.out]; exact bu_self u n hn]; exact hU.out
  clear hU kb kc kl
  replace hR : Hid (bestL u l (L - 0) nx ((p0.offer b0 (fallsV u b0)).offer b1 (fallsV u b1)) = R) := hide' (by rw [← hL]; exact hR.out)
  rw [hL] at hnl hll
  try rw [hL]
  have HLL := hide' hL
  clear hL
  have hL9 : L ≤ 9223372036854775807 := by have := HM.out; omega
  obtain ⟨pp, hpp⟩ : ∃ pp, (p0.offer b0 (fallsV u b0)).offer b1 (fallsV u b1) = pp := ⟨_, rfl⟩
  rw [hpp] at hR pc
  clear hpp
  go_loopw [27] (fun vi wr => ∃ (k nx : Nat) (p : PR), k ≤ L ∧ vi = .int .i64 k ∧ (0 < L → nx < L) ∧ UM wr ow b V (bu u n nx) ∧ PB wr c p 103 ∧ PB wr d p0 103 ∧ Step ow ow w wr ∧ bestL u l (L - k) nx p = R) (fun vi _ => L - (intOf vi).toNat)
  case atStart => exact ⟨0, nx, pp, Nat.zero_le _, rfl, hnl, hU0, pc.out, pd.out, S0.out, hR.out⟩
  case round =>
      clear hU0 pc pd S0 hR hnl
      obtain ⟨k, z, p, hk, rfl, hz, hU, pc, pd, S0, hb⟩ := hrel
      have fzc := fun o => pc.frozen o
      have fzd := fun o => pd.frozen o
      obtain ⟨m0, m1, m2, m3⟩ := pc.cell
      by_cases hlt : k < L
      · have i2 : (k : Int) < (L : Int) := by omega
        obtain ⟨j, hj⟩ : ∃ j, L - k = j + 1 := ⟨L - k - 1, by omega⟩
        have hj2 : L - (k + 1) = j := by omega
        rw [hj] at hb
        by_cases hf : p.f1 = nev
        · have hfb : (p.f1 == 9223372036854775807) = true := by rw [hf]; rfl
          have hfx := hide' hf
          clear hf
          have HX := hide' (show R = (p, z) from by rw [← hb]; exact bestL_stop hfx.out)
          have HU2 := hide' hU
          have S02 := hide' S0
          clear hU S0 hb hz
          obtain ⟨n0, n1, n2, n3⟩ := pd.cell
          have HD := hide' (PB.set4 (q := p) pd)
          have HS := hide' (show ChB d wr _ from ChB.set (ChB.set (ChB.set (ChB.set (ChB.refl d wr) (o := 0) (v := .int .i64 p.l0)) (o := 1) (v := .int .i64 p.l1)) (o := 2) (v := .int .i64 p.f0)) (o := 3) (v := .int .i64 p.f1))
          clear pd pc
          go_wp2_with fail
          refine bodyPost_ret (v := .agg #[.int .i64 p.l0, .int .i64 p.l1, .int .i64 p.f0, .int .i64 p.f1]) ?_ rfl ?_
          · obtain ⟨q0, q1, q2, q3⟩ := HD.out.cell
            rw [results_cell rfl]
            go_simp
          · exact ⟨p, z, HX.out, rfl, HU2.out.chb HS.out hod, ChB.step S02.out HS.out hdw.out⟩
        · have hfb : (p.f1 == 9223372036854775807) = false := by unfold nev at hf; simp [hf]
          have hb2 : bestL u l j ((z + 1) % l.length) (p.offer (l.getD z 0) (fallsV u (l.getD z 0))) = R := by rw [← bestL_go hf]; exact hb
          rw [HLL.out] at hb2
          replace hb2 := hide' hb2
          clear hb hf
          have hz2 := hz (by omega)
          clear hz
          have hn2 : n < (bu u n z).cl.length := by show n < (u.cl.set _ _).length; rw [List.length_set]; exact hn
          have eg := bu_get u n z hn
          have kl := hU.rcl.cell hgC (j := n * 6) (by omega)
          rw [(clC_at _ _ n hU.nlv hn2).1, eg] at kl
          change wr.cell? _ = some (SlV.val _ (u.cl.getD n default).lits.length) at kl
          rw [HL.out.1, HLL.out] at kl
          have kn := hU.rcl.cell hgC (j := n * 6 + 5) (by omega)
          rw [(clC_at _ _ n hU.nlv hn2).2.2.2.2.2, eg] at kn
          change wr.cell? _ = some (.int .i64 (z : Int)) at kn
          have hrl := hU.rlit hn2
          rw [eg] at hrl
          change RowAt wr ow (.lit n) _ 1 _ (u.cl.getD n default).lits.length (iv (u.cl.getD n default).lits) at hrl
          rw [HL.out.1, HLL.out] at hrl
          obtain ⟨gL, hgL⟩ := hrl.got (by omega)
          rw [SlV.val_some hgL] at kl
          have kz := hrl.cell hgL (j := z) (by omega)
          rw [iv_at (z := l.getD z 0) (by simp [List.getD, List.getElem?_eq_getElem (show z < l.length by rw [HLL.out]; exact hz2)])] at kz
          have hiy : InR u (l.getD z 0) := hli _ (by rw [show l.getD z 0 = l[z]'(by rw [HLL.out]; exact hz2) from by simp [List.getD, List.getElem?_eq_getElem (show z < l.length by rw [HLL.out]; exact hz2)]]; exact List.getElem_mem _)
          obtain ⟨y, hy⟩ : ∃ y, l.getD z 0 = y := ⟨_, rfl⟩
          rw [hy] at kz hiy hb2
          clear hy hrl eg hgL
          have GF := hide' (fun w' (h' : UM w' ow b V (bu u n z)) => falls_is ow b V (bu u n z) y (hiy.lk (bu_lk u n z)) w' h' (HR.out.lk (bu_lk u n z)))
          have GO := hide' (fun w' (h' : PB w' c p 103) => offer_is c p 103 y (fallsV u y) w' h')
          have HP := hide' (And.intro pd (And.intro S0 hn2))
          clear pd S0 hn2 fzd
          have j0 : (0 : Int) ≤ (z : Int) := by omega
          have j1 : (z : Int) < (L : Int) := by omega
          have HUw := hide' hU
          have HPc := hide' pc
          clear hU pc
          go_wp2_with fail
          go_quiet (fail)
          obtain ⟨w5, hw5⟩ : ∃ wq, wr.drewN nq = wq := ⟨_, rfl⟩
          have b5 : Below wr.heap.size wr w5 := by rw [← hw5]; exact below_drewN (Below.refl _ _)
          rw [hw5]
          clear hw5
          have hU5 := HUw.out.later b5
          have pc5 := HPc.out.later b5
          have pd5 := HP.out.1.later b5
          have S5 := HP.out.2.1.trans (Step.of_below b5)
          clear b5 m0 m1 m2 m3 fzc kl kn kz
          have GF5 := hide' (GF.out w5 hU5)
          have GO5 := hide' (GO.out w5 pc5)
          replace hU5 := hide' hU5
          replace pd5 := hide' pd5
          replace S5 := hide' S5
          clear pc5 HUw HPc GF GO
          go_wp2_with fail
          refine GF5.out.mono ?_
          rintro e x5 ⟨rfl, hx5⟩
          rw [hx5]
          clear hx5 x5 GF5
          go_wp2_with fail
          refine GO5.out.mono ?_
          rintro e y5 ⟨⟨z5, rfl⟩, pc6, ch⟩
          have hU6 := hU5.out.chb ch hoc
          have pd6 := pd5.out.chb ch hdc
          have S6 := ChB.step S5.out ch hcw.out
          clear GO5 ch hU5 pd5 S5
          have eg := bu_get u n z hn
          have kl := hU6.rcl.cell hgC (j := n * 6) (by have := HP.out.2.2; omega)
          rw [(clC_at _ _ n hU6.nlv HP.out.2.2).1, eg] at kl
          change y5.cell? _ = some (SlV.val _ (u.cl.getD n default).lits.length) at kl
          rw [HL.out.1, HLL.out] at kl
          unfold SlV.val at kl
          have kn := hU6.rcl.cell hgC (j := n * 6 + 5) (by have := HP.out.2.2; omega)
          rw [(clC_at _ _ n hU6.nlv HP.out.2.2).2.2.2.2.2, eg] at kn
          change y5.cell? _ = some (.int .i64 (z : Int)) at kn
          have fzC := fun o => (hU6.rcl.row hgC).frozen o
          have P7 := hU6.set_nx (((z + 1) % L : Nat) : Int) hgC HP.out.2.2
          have eB : ({ bu u n z with cl := (bu u n z).cl.set n { (bu u n z).cl.getD n default with nx := (((z + 1) % L : Nat) : Int) } } : US) = bu u n (((z + 1) % L : Nat) : Int) := bu_bu u n _ _ hn
          rw [eB] at P7
          clear eB
          have hzL := Nat.mod_lt (z + 1) (show 0 < L by omega)
          have HQ := hide' (And.intro P7.1 (And.intro (S6.trans P7.2) (And.intro (pb_put (v := .int .i64 (((z + 1) % L : Nat) : Int)) (o := n * 6 + 5) pc6 (fun e : c = gC => by have := hU6.rcl.2 gC hgC; rw [← e, hoc] at this; cases this)) (pb_put (v := .int .i64 (((z + 1) % L : Nat) : Int)) (o := n * 6 + 5) pd6 (fun e : d = gC => by have := hU6.rcl.2 gC hgC; rw [← e, hod] at this; cases this)))))
          clear P7 S6 pc6 pd6 hU6 eg
          have em : ((z : Int) + 1).tmod (L : Int) = (((z + 1) % L : Nat) : Int) := by rw [Int.tmod_eq_emod_of_nonneg (by omega), Int.natCast_emod]; rfl
          have hL0 : ¬ (L : Int) = 0 := by omega
          obtain ⟨z7, hz7⟩ : ∃ z7, (z + 1) % L = z7 := ⟨_, rfl⟩
          rw [hz7] at HQ em hzL hb2
          replace hz7 := hide' hz7
          replace hb2 := hide' hb2
          have HZ := hide' hzL
          clear hzL
          go_wp2_with fail
          go_region
          all_goals go_wp2
          all_goals go_roundw
          case rel => exact ⟨k + 1, z7, _, by omega, by go_num, fun _ => HZ.out, HQ.out.1.later (Below.refl _ _).drew, HQ.out.2.2.1.later (Below.refl _ _).drew, HQ.out.2.2.2.later (Below.refl _ _).drew, HQ.out.2.1.trans (Step.of_below (Below.refl _ _).drew), by rw [hj2]; exact hb2.out.out⟩
          case measure => simp only [intOf]; omega
      · obtain rfl : k = L := by omega
        have i2 : ¬ (k : Int) < (k : Int) := by omega
        rw [Nat.sub_self] at hb
        have HX := hide' (show R = (p, z) from by rw [← hb]; rfl)
        have HU2 := hide' hU
        have S02 := hide' S0
        clear hU S0 hb hz
        obtain ⟨n0, n1, n2, n3⟩ := pd.cell
        have HD := hide' (PB.set4 (q := p) pd)
        have HS := hide' (show ChB d wr _ from ChB.set (ChB.set (ChB.set (ChB.set (ChB.refl d wr) (o := 0) (v := .int .i64 p.l0)) (o := 1) (v := .int .i64 p.l1)) (o := 2) (v := .int .i64 p.f0)) (o := 3) (v := .int .i64 p.f1))
        clear pd pc
        go_wp2_with fail
        refine bodyPost_ret (v := .agg #[.int .i64 p.l0, .int .i64 p.l1, .int .i64 p.f0, .int .i64 p.f1]) ?_ rfl ?_
        · obtain ⟨q0, q1, q2, q3⟩ := HD.out.cell
          rw [results_cell rfl]
          go_simp
        · exact ⟨p, z, HX.out, rfl, HU2.out.chb HS.out hod, ChB.step S02.out HS.out hdw.out⟩
end Go.Proofs.Ytfodejhipnmgnaa
