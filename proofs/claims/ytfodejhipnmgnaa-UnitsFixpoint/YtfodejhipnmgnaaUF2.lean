/-
  units: Level of any store, look.
-/
import Derived.Test.YtfodejhipnmgnaaUQ7
namespace Go.Proofs.Ytfodejhipnmgnaa
open Go.RowKit
set_option linter.unusedVariables false
set_option linter.unusedSimpArgs false
theorem info_l : (Try.prog.info? 96).bind (fun i => i.zero.map fun z => (z, i.size, i.bytes)) = some (.agg #[.int .i64 0, .int .i64 0], 2, 16) := by kernel_rfl
theorem PB.step {w w' : World} {ow ow' : Nat → Tg} {c : Nat} {p : PR} {t : TypeId} (h : PB w c p t) (k : Step ow ow' w w') (ho : ow c = .oth) : PB w' c p t ∧ ow' c = .oth := ⟨(k.chg.block c h.lt ho).trans h, (k.same c h.lt).trans ho⟩
theorem Iv.la_len {u : US} (h : Iv u) : u.la.length ≤ u.cl.length := by
  have h1 := nodup_le u.cl.length (u.la.map (·.1)) (List.nodup_append.1 h.nd).2.1 fun z hz => by
    obtain ⟨e, he, rfl⟩ := List.mem_map.1 hz
    obtain ⟨n, h1, h2, _⟩ := h.la e he
    omega
  rwa [List.length_map] at h1
theorem Iv.fr_len {u : US} (h : Iv u) : u.fr.length ≤ u.cl.length := nodup_le u.cl.length u.fr (List.nodup_append.1 h.nd).1 fun z hz => by
  obtain ⟨n, h1, h2⟩ := h.fr z hz
  omega
set_option maxHeartbeats 2000000 in
set_option maxRecDepth 100000 in
theorem level_is (ow : Nat → Tg) (b : Nat) (V : SV) (u : US) (w : World) (h : UM w ow b V u) (hr : Rd u)  :
    Calls Try.prog 13 #[.pointer (some ⟨b, 0, none⟩)] w fun e w' => e = .returned (.int .i64 (lvlV u)) ∧ Below w.heap.size w w' := by
  obtain ⟨n, hn⟩ : ∃ n, u.tr.length = n + 1 := ⟨u.tr.length - 1, by have := hr.n0; omega⟩
  obtain ⟨g, hg⟩ := h.rtr.got hr.n0
  have c0 := h.cells.2.2.1
  rw [SlV.val_some hg, hn] at c0
  have c1 := h.cells.2.2.2.1
  have hM := hr.nM
  rw [lvl_eq]
  by_cases hm : u.mks.length = 0
  · rw [if_pos hm]
    rw [hm] at c1
    exact levelM0 b g n _ _ _ w c0 c1
  · rw [if_neg hm]
    obtain ⟨m, hmm⟩ : ∃ m, u.mks.length = m + 1 := ⟨u.mks.length - 1, by omega⟩
    obtain ⟨q, hq⟩ := h.rmk.got (by omega)
    have k := h.rmk.cell hq (j := m * 3 + 1) (by omega)
    rw [(mkC_at u.mks m (by omega)).2.1] at k
    rw [SlV.val_some hq, hmm] at c1
    rw [hmm, Nat.add_sub_cancel]
    exact levelM b g n _ m q _ _ w c0 c1 k (by omega)
set_option maxHeartbeats 16000000 in
set_option maxRecDepth 100000 in
theorem look_is (ow : Nat → Tg) (b : Nat) (V : SV) (u : US) (n : Nat) (hI : Iv u) (hfr : (n : Int) ∈ u.fr) (hn : n < u.cl.length) (w : World) (h : UM w ow b V u) :
    Calls Try.prog 58 #[.pointer (some ⟨b, 0, none⟩), .int .i64 n] w fun e w' => e = .returned (.bool (lookU u n).2) ∧ Chd ow b V (lookU u n).1 w w' := by
  have HM := hide' maxLen_is
  obtain ⟨li, hli, hlz, hls, hlb⟩ := info_parts info_l
  have hC := hI.wo.cl
  have hr := hI.rd
  obtain ⟨gC, hgC⟩ := h.rcl.got (by omega)
  have k2 := h.cells.2.2.2.2.1
  rw [SlV.val_some hgC] at k2
  have kb := h.rcl.cell hgC (j := n * 6 + 1) (by omega)
  rw [(clC_at _ _ n h.nlv hn).2.1] at kb
  have kc := h.rcl.cell hgC (j := n * 6 + 2) (by omega)
  rw [(clC_at _ _ n h.nlv hn).2.2.1] at kc
  have i1 : (0 : Int) ≤ (n : Int) := by omega
  have i2 : (n : Int) < (u.cl.length : Int) := by omega
  have GS := hide' (isSafe_is ow b V u (byU u n 0) (byU u n 1) (hI.wo.inr n 0) (hI.wo.inr n 1) w h hr)
  change w.cell? _ = some (.int .i64 (byU u n 0)) at kb
  change w.cell? _ = some (.int .i64 (byU u n 1)) at kc
  obtain ⟨R, hR⟩ : ∃ R, lookU u n = R := ⟨_, rfl⟩
  rw [hR]
  generalize hC9 : u.cl.length = C9 at k2 i2
  have hC99 : C9 ≤ 1048576 := by omega
  by_cases hs : safeV u (byU u n 0) (byU u n 1) = true
  · have hR2 : R = (u, true) := by rw [← hR]; unfold lookU; rw [if_pos hs]
    subst hR2
    rw [hs] at GS
    have HH := hide' h
    clear hR hs h hI hr
    go_enter Try.func58, Try.ntmps58
    go_wp2_with fail
    refine GS.out.mono ?_
    rintro e w1 ⟨rfl, b1⟩
    go_wp2
    go_ret
    exact ⟨rfl, Chd.mk (HH.out.later b1) (Step.of_below b1)⟩
  · have hs2 : safeV u (byU u n 0) (byU u n 1) = false := by simpa using hs
    rw [hs2] at GS
    clear hs2
    obtain ⟨z, hz, hzl⟩ := hI.nx n hn
    obtain ⟨⟨p, nx'⟩, hb⟩ : ∃ R, bestR u n z = R := ⟨_, rfl⟩
    obtain ⟨B, hx, hy, r0, r1, IV, lk, hl, byn⟩ := look_v hI hfr hn hz hb
    have GB := hide' (fun w' (hb9 : Below w.heap.size w w') => best_is ow b V u n gC z hgC hn hC hz hzl (hI.wo.inr n 0) (hI.wo.inr n 1) (fun y hy => (hI.li n hn y hy).2) w' (h.later hb9) hr)
    have hl1 := bu_lk u n nx'
    have GW := hide' (fun ow' w' (h' : UM w' ow' b V (bu u n nx')) => watch_is ow' b V (bu u n nx') n p.l0 p.l1 (by rw [hl1.cl]; exact hn) (by rw [hl1.cl]; exact hC) (by rw [hl1.ws, hl1.tr]; exact hI.wo.ws) r0 r1 w' h' (hr.lk hl1))
    have hRl : R = lookU u n := hR.symm
    unfold lookU at hRl
    rw [if_neg hs, hz, Int.toNat_natCast, hb] at hRl
    simp only at hRl
    obtain ⟨v, hv⟩ : ∃ v, watchU (bu u n nx') n p.l0 p.l1 = v := ⟨_, rfl⟩
    rw [hv] at GW IV lk hl byn hRl
    have HB := hide' B
    have HBR := hide' hb
    have HR := hide' hRl
    have HOW := hide' h.hi
    have HI := hide' hI
    have HIV := hide' IV
    have HLK := hide' (And.intro lk hl)
    have hn1 : n < v.cl.length := by rw [lk.cl]; exact hn
    clear hb hRl hR hs B byn r0 r1 hx hy h hI hr hfr IV lk hl hv hl1 hzl hz
    go_enter Try.func58, Try.ntmps58
    go_wp2_with fail
    refine GS.out.mono ?_
    rintro e w1 ⟨rfl, b1⟩
    go_wp2_with fail
    refine (GB.out _ b1).mono ?_
    rintro e w2 ⟨p', nx2, hb2, rfl, h2, S2⟩
    have hpe : (p', nx2) = (p, nx') := hb2.symm.trans HBR.out
    simp only [Prod.mk.injEq] at hpe
    obtain ⟨rfl, rfl⟩ := hpe
    clear hb2 GB GS
    have S3 := (Step.of_below (ow := ow) b1).trans S2
    clear S2
    have hoc : ow w2.heap.size = .oth := HOW.out _ S3.chg.size
    obtain ⟨wA, hwA⟩ : ∃ wA, w2.alloc (.cells #[.int .i64 0, .int .i64 0, .int .i64 0, .int .i64 0] 103) = wA := ⟨_, rfl⟩
    have bA : Below w2.heap.size w2 wA := by rw [← hwA]; exact below_alloc _
    have pA : PB wA w2.heap.size p0 103 := by rw [← hwA]; exact heap_alloc_new w2 _
    have fz := fun o => pA.frozen o
    obtain ⟨m0, m1, m2, m3⟩ := pA.cell
    have pF := PB.set4 (q := p') pA
    have cF : ChB w2.heap.size wA _ := ChB.set (ChB.set (ChB.set (ChB.set (ChB.refl w2.heap.size wA) (o := 0) (v := .int .i64 p'.l0)) (o := 1) (v := .int .i64 p'.l1)) (o := 2) (v := .int .i64 p'.f0)) (o := 3) (v := .int .i64 p'.f1)
    have h3 := (h2.later bA).chb cF hoc
    have S4 : Step ow ow w _ := ChB.step (S3.trans (Step.of_below bA)) cF S3.chg.size
    obtain ⟨c, hc⟩ : ∃ c, w2.heap.size = c := ⟨_, rfl⟩
    rw [hc] at hoc pA fz m0 m1 m2 m3 pF cF h3 S4
    have HF := hide' (And.intro pF (And.intro h3 S4))
    clear pF cF h3 S4 S3 bA h2 pA b1
    go_wp2_with (first | (rw [hwA, hc]) | rw [hwA] | rw [hc])
    refine (GW.out ow _ HF.out.2.1).mono ?_
    rintro e w3 ⟨⟨z3, rfl⟩, ow3, V3, h3, S3, e3⟩
    obtain ⟨p3, o3⟩ := HF.out.1.step S3 hoc
    have S4 := HF.out.2.2.trans S3
    clear HF S3 GW m0 m1 m2 m3 fz hwA hoc
    obtain ⟨m0, m1, m2, m3⟩ := p3.cell
    have HS := hide' (And.intro h3 (And.intro S4 (And.intro p3 (And.intro o3 e3))))
    clear h3 S4 p3 o3 e3
    by_cases c0 : p'.f0 = nev
    · have c0b : (p'.f0 == 9223372036854775807) = true := by rw [c0]; rfl
      have HR2 := hide' (show R = _ from by rw [HR.out, if_neg (show ¬ (p'.f0 ≠ nev) from fun e => e c0)])
      have c0' := hide' c0
      clear c0 HR
      by_cases c1 : p'.f1 = nev
      · have c1b : (p'.f1 == 9223372036854775807) = true := by rw [c1]; rfl
        have HR3 := hide' (show R = (v, true) from by rw [HR2.out, if_pos c1])
        clear c1 HR2
        go_wp2_with fail
        rw [HR3.out]
        go_wp2
        go_ret
        exact ⟨rfl, Chd.mk HS.out.1 HS.out.2.1 (HS.out.2.2.2.2)⟩
      · have c1b : (p'.f1 == 9223372036854775807) = false := by unfold nev at c1; simp [c1]
        have HR3 := hide' (HR2.out.trans (if_neg c1))
        have c1' := hide' c1
        clear c1 HR2
        have hl0 : p'.l0 ≠ 0 := fun e => by have h1 := HB.out.g0; have h2 := c0'.out; rw [e, falls_zero] at h1; unfold nev at h2; omega
        have hm0 := HB.out.m0.resolve_left hl0
        have hxl : IsL v p'.l0 := (isl_lk HLK.out.1 _).2 (HI.out.li n hn _ hm0)
        have hyl : InR v p'.l1 := by
          rcases HB.out.m1 with e | e
          · rw [e]; have := HIV.out.rd.n0; exact ⟨by omega, by omega⟩
          · exact ((isl_lk HLK.out.1 _).2 (HI.out.li n hn _ e)).2
        clear hm0
        go_wp2_with fail
        go_quiet (fail)
        obtain ⟨w5, hqw5⟩ : ∃ wq, w3.drewN nq = wq := ⟨_, rfl⟩
        rw [hqw5]
        have bQw5 : Below w3.heap.size w3 w5 := by subst hqw5; exact below_drewN (Below.refl _ _)
        clear hqw5
        have h5 := HS.out.1.later bQw5
        have S5 := HS.out.2.1.trans (Step.of_below bQw5)
        have p5 := HS.out.2.2.1.later bQw5
        have HE := hide' (And.intro HS.out.2.2.2.1 HS.out.2.2.2.2)
        clear HS bQw5 m0 m1 m2 m3
        have GT := hide' (truth_is ow3 b V3 v p'.l0 hxl.2 w5 h5 HIV.out.rd)
        by_cases ct : trv v p'.l0 = 0
        · skip
          have hroom : v.mks.length < 262144 := by have := HIV.out.tr.room hxl ct; have := HIV.out.rd.nT; omega
          have hlv := HIV.out.tr.lvl0
          have hM := HIV.out.rd.nM
          have GL := hide' (level_is ow3 b V3 v w5 h5 HIV.out.rd)
          have GP := hide' (fun w' (hb : Below w5.heap.size w5 w') => put_is ow3 b V3 v p'.l0 (lvlV v) n hxl ⟨by omega, by omega⟩ w' (h5.later hb) HIV.out.rd hroom)
          have HIX := hide' (put_iv (lv := lvlV v) (r := (n : Int)) HIV.out hxl ct (Or.inl rfl))
          have HXE := hide' (HR3.out)
          obtain ⟨x, hx⟩ : ∃ x, putU v p'.l0 (lvlV v) n = x := ⟨_, rfl⟩
          have hXE := HR3.out
          rw [if_pos ct, hx] at hXE
          replace HXE := hide' hXE
          clear hXE
          rw [hx] at GP HIX
          have hx7 : InR x p'.l0 := by have e := hxl.2; rw [← hx]; unfold InR putU at *; simpa using e
          have hy7 : InR x p'.l1 := by have e := hyl; rw [← hx]; unfold InR putU at *; simpa using e
          clear hx
          obtain ⟨lvv, hlvv⟩ : ∃ l, lvlV v = l := ⟨_, rfl⟩
          rw [hlvv] at GL GP hlv
          clear hlvv
          rw [ct] at GT
          replace ct := hide' ct
          have HU := hide' (And.intro h5 (And.intro S5 p5))
          clear h5 S5 p5 hlv HR3 hroom hM
          have IX := hide' HIX.out
          clear HIX
          go_wp2_with fail
          refine GT.out.mono ?_
          rintro e x5 ⟨rfl, hx5⟩
          rw [hx5]
          clear hx5 x5 GT
          go_wp2_with fail
          refine GL.out.mono ?_
          rintro e w6 ⟨rfl, b6⟩
          have GP6 := GP.out w6 b6
          clear GL GP
          go_wp2_with fail
          refine GP6.mono ?_
          rintro e w7 ⟨⟨z7, rfl⟩, ow7, V7, h7, T7, e7⟩
          have p6 := HU.out.2.2.later b6
          have p7 := (p6.step T7 HE.out.1).1
          have S7 := HU.out.2.1.trans ((Step.of_below b6).trans T7)
          have HE7 : V7.cl = V.cl := e7.trans HE.out.2
          clear p6 T7 e7 b6 HU GP6
          obtain ⟨_, _, _, m3⟩ := p7.cell
          have k4 := h7.cells.2.2.2.2.2.2.1
          have HXl := hide' (And.intro hx7 hy7)
          clear hx7 hy7
          have G0 := hide' (fun w' (hb : Below w7.heap.size w7 w') => since_is ow7 b V7 x p'.l0 HXl.out.1 w' (h7.later hb) IX.out.rd)
          have G1 := hide' (fun w' (hb : Below w7.heap.size w7 w') => since_is ow7 b V7 x p'.l1 HXl.out.2 w' (h7.later hb) IX.out.rd)
          have GLv := hide' (fun w' (hb : Below w7.heap.size w7 w') => level_is ow7 b V7 x w' (h7.later hb) IX.out.rd)
          have HU := hide' (And.intro h7 S7)
          clear h7 S7 p7
          have HLV := hide' IX.out.la_len
          have HCL := hide' IX.out.wo.cl
          obtain ⟨s0, hs0⟩ : ∃ s, sinceV x p'.l0 = s := ⟨_, rfl⟩
          obtain ⟨s1, hs1⟩ : ∃ s, sinceV x p'.l1 = s := ⟨_, rfl⟩
          rw [hs0] at G0
          rw [hs1] at G1
          have HSS := hide' (And.intro hs0 hs1)
          clear hs0 hs1
          obtain ⟨fo, hfo⟩ : ∃ f, x.fo = f := ⟨_, rfl⟩
          rw [hfo] at k4
          have HFO := hide' hfo
          clear hfo
          by_cases c3 : p'.f1 ≤ (fo : Int)
          · by_cases c4 : s1 < s0
            · skip
              have HR4 := hide' (show R = ({ x with la := x.la ++ [((n : Int), lvlV x)] }, true) from HXE.out.trans (by rw [if_pos (show p'.f1 ≤ (x.fo : Int) ∧ sinceV x p'.l0 > sinceV x p'.l1 from by rw [HFO.out, HSS.out.1, HSS.out.2]; exact ⟨c3, c4⟩)]))
              go_wp2_with fail
              go_quiet (first | (go_at_call_of 63 (Value.int .i64 p'.l0); exact Calls.quiet_of_same (G0.out _ (below_drewN (Below.refl _ _)))) | (go_at_call_of 63 (Value.int .i64 p'.l1); exact Calls.quiet_of_same (G1.out _ (below_drewN (Below.refl _ _)))))
              clear G0 G1
              obtain ⟨w8, hqw8⟩ : ∃ wq, w7.drewN nq = wq := ⟨_, rfl⟩
              rw [hqw8]
              have bQw8 : Below w7.heap.size w7 w8 := by subst hqw8; exact below_drewN (Below.refl _ _)
              clear hqw8
              have h8 := HU.out.1.later bQw8
              have S8 := HU.out.2.trans (Step.of_below bQw8)
              have GL8 := GLv.out w8 bQw8
              clear HU GLv m3 k4 bQw8
              have k6 := h8.cells.2.2.2.2.2.2.2.2
              obtain ⟨lv, hlv⟩ : ∃ l, lvlV x = l := ⟨_, rfl⟩
              have HLE := hide' hlv
              have GL8 := hide' (fun w' (hb : Below w8.heap.size w8 w') => level_is ow7 b V7 x w' (h8.later hb) IX.out.rd)
              rw [hlv] at GL8
              clear hlv
              go_wp2_with fail
              have bT : Below w8.heap.size w8 w8 := Below.refl _ _
              have bD : Below w8.heap.size w8 w8.drew := (Below.refl _ _).drew
              replace bT := bT.trans (bD.mono bT.size)
              replace h8 := h8.later bD
              replace k6 := below_cell bD k6
              refine wp_region_held_drew (S := fun w' => True) (by kernel_rfl) trivial (fun hHeld => ?_)
              generalize w8.drew = w9 at bD h8 k6 bT hHeld ⊢
              clear bD
              refine take' 0 (v := ?_) rfl (by kernel_rfl) (by kernel_rfl) (by kernel_rfl) (fun _ _ _ h => h) (Or.inl ⟨by rfl, ?_⟩) (by assumption) ?_
              rotate_left
              · intro w9 hSw
                go_simp
                first | done | with_reducible rfl
              simp only [Act.put, List.setIfInBounds_toArray, List.set_cons_zero, List.set_cons_succ]
              refine take' 1 (v := ?_) rfl (by kernel_rfl) (by kernel_rfl) (by kernel_rfl) (fun _ _ _ h => h) (Or.inl ⟨by rfl, ?_⟩) (by assumption) ?_
              rotate_left
              · intro w9 hSw
                go_simp
                first | done | with_reducible rfl
              simp only [Act.put, List.setIfInBounds_toArray, List.set_cons_zero, List.set_cons_succ]
              refine take' 2 (v := ?_) rfl (by kernel_rfl) (by kernel_rfl) (by kernel_rfl) (fun _ _ _ h => h) (Or.inl ⟨by rfl, ?_⟩) (by assumption) ?_
              rotate_left
              · intro w9 hSw
                go_simp
                first | done | with_reducible rfl
              simp only [Act.put, List.setIfInBounds_toArray, List.set_cons_zero, List.set_cons_succ]
              refine take' 3 (v := ?_) rfl (by kernel_rfl) (by kernel_rfl) (by kernel_rfl) (fun _ _ _ h => h) (Or.inl ⟨by rfl, ?_⟩) (by assumption) ?_
              rotate_left
              · intro w9 hSw
                go_simp
                first | done | with_reducible rfl
              simp only [Act.put, List.setIfInBounds_toArray, List.set_cons_zero, List.set_cons_succ]
              refine take' 5 (v := ?_) rfl (by kernel_rfl) (by kernel_rfl) (by kernel_rfl) (fun _ _ _ h => h) (Or.inl ⟨by rfl, ?_⟩) (by assumption) ?_
              rotate_left
              · intro w9 hSw
                go_simp
                first | done | with_reducible rfl
              simp only [Act.put, List.setIfInBounds_toArray, List.set_cons_zero, List.set_cons_succ]
              refine take' 6 (v := ?_) rfl (by kernel_rfl) (by kernel_rfl) (by kernel_rfl) (fun _ _ _ h => h) (Or.inl ⟨by rfl, ?_⟩) (by assumption) ?_
              rotate_left
              · intro w9 hSw
                go_simp
                first | done | with_reducible rfl
              simp only [Act.put, List.setIfInBounds_toArray, List.set_cons_zero, List.set_cons_succ]
              refine wpAnyH_ready (rs := [4, 7]) (by kernel_rfl) (by simp) ?_
              refine consT rfl (fun KK hKK => ?_) ?_
              · skip
                go_simp
                refine hKK.out _ _ hHeld ?_
                clear hHeld
                intro hHeld
                clear hKK KK
                try simp only [Act.put, List.setIfInBounds_toArray, List.set_cons_zero, List.set_cons_succ]
                refine wpAnyH_ready (rs := [7]) (by kernel_rfl) (by simp) ?_
                refine cons' rfl (fun KK hKK => ?_)
                go_simp
                refine (GL8.out _ bT).mono ?_
                rintro e wc ⟨rfl, bc⟩
                have bC := bc
                replace bT := bT.trans (bC.mono bT.size)
                replace h8 := h8.later bC
                replace k6 := below_cell bC k6
                clear bC
                go_wp2_with fail
                clear bc
                refine hKK.out _ _ hHeld ?_
                clear hHeld
                intro hHeld
                clear hKK KK
                try simp only [Act.put, List.setIfInBounds_toArray, List.set_cons_zero, List.set_cons_succ]
                refine take' 8 (v := ?_) rfl (by kernel_rfl) (by kernel_rfl) (by kernel_rfl) (fun _ _ _ h => h) (Or.inl ⟨by rfl, ?_⟩) (by assumption) ?_
                rotate_left
                · intro w9 hSw
                  go_simp
                  first | done | with_reducible rfl
                simp only [Act.put, List.setIfInBounds_toArray, List.set_cons_zero, List.set_cons_succ]
                refine wpAnyH_ready (rs := [9]) (by kernel_rfl) (by simp) ?_
                refine cons' rfl (fun KK hKK => ?_)
                go_simp
                have hnew := heap_alloc_new wc (.cells #[.int .i64 n, .int .i64 lv] 96)
                have b3 := below_alloc (w := wc) (.cells #[.int .i64 n, .int .i64 lv] 96)
                obtain ⟨na, hna⟩ : ∃ na, wc.heap.size = na := ⟨_, rfl⟩
                rw [hna] at hnew
                try rw [hna]
                generalize wc.alloc (.cells #[.int .i64 n, .int .i64 lv] 96) = wd at hnew b3 ⊢
                replace hnew : wd.heap[na]? = _ := hnew
                replace bT := bT.trans (b3.mono bT.size)
                replace h8 := h8.later b3
                replace k6 := below_cell b3 k6
                clear b3 hna
                refine hKK.out _ _ hHeld ?_
                clear hHeld
                intro hHeld
                clear hKK KK
                try simp only [Act.put, List.setIfInBounds_toArray, List.set_cons_zero, List.set_cons_succ]
                refine wpAnyH_ready (rs := [10]) (by kernel_rfl) (by simp) ?_
                refine cons' rfl (fun KK hKK => ?_)
                have hO := h8.rla.1
                have hl1 : x.la.length + 1 ≤ maxLen := by have := HM.out; have := HLV.out; have := HCL.out; omega
                have hl2 : (x.la.length + 1) * 16 ≤ 140737488355328 := by have := HLV.out; have := HCL.out; omega
                refine step_append_lies _ (by rfl) _ _ _ (by rfl) 0 96 li _ 2 16 Try.underlying66 hli hlz hls hlb rfl (by omega) (V7.la.val x.la.length) x.la.length (laC x.la) (by rfl) hO ⟨na, 0, none⟩ 1 1 [.int .i64 n, .int .i64 lv] (by rfl) (by rfl) (World.news_of_block (cs := #[.int .i64 n, .int .i64 lv]) (t := 96) (fr := (0, 0)) hnew) (by simp [Value.oneCell']) (by omega) hl1 hl2 (Nat.zero_le _) _ rfl ?_
                intro gb cap w8 hown hgrow hat hlt
                have RR := UM.app_la (zs := [((n : Int), lv)]) h8 hown rfl hgrow hat rfl hlt
                have P4 := (h8.part .st).app (RowAt.app h8.rla hown hgrow hat rfl hlt).2 (by simp)
                have q6 := P4.2.2.2.2.2.2.2.2
                have fz8 := fun o => P4.2.1.frozen o
                have HX := hide' (show _ ∧ Step ow _ w _ from ⟨RR.1, S8.trans ((Step.of_below bT).trans ⟨RR.2.1, RR.2.2⟩)⟩)
                clear RR P4 hown hgrow hat hlt hO hl1 hl2 hnew k6 S8
                refine hKK.out _ _ trivial ?_
                clear hHeld
                intro hHeld
                clear hKK KK
                try simp only [Act.put, List.setIfInBounds_toArray, List.set_cons_zero, List.set_cons_succ]
                clear h8 bT
                refine take' 11 (v := ?_) rfl (by kernel_rfl) (by kernel_rfl) (by kernel_rfl) (fun _ _ _ h => h) (Or.inl ⟨by rfl, ?_⟩) (by assumption) ?_
                rotate_left
                · intro w9 hSw
                  go_simp
                  first | done | with_reducible rfl
                simp only [Act.put, List.setIfInBounds_toArray, List.set_cons_zero, List.set_cons_succ]
                refine take' 12 (v := ?_) rfl (by kernel_rfl) (by kernel_rfl) (by kernel_rfl) (fun _ _ _ h => h) (Or.inl ⟨by rfl, ?_⟩) (by assumption) ?_
                rotate_left
                · intro w9 hSw
                  go_simp
                  first | done | with_reducible rfl
                simp only [Act.put, List.setIfInBounds_toArray, List.set_cons_zero, List.set_cons_succ]
                refine wpAnyH_ready (rs := [13]) (by kernel_rfl) (by simp) ?_
                refine cons' rfl (fun KK hKK => ?_)
                go_simp
                refine hKK.out _ _ trivial ?_
                clear hHeld
                intro hHeld
                clear hKK KK
                try simp only [Act.put, List.setIfInBounds_toArray, List.set_cons_zero, List.set_cons_succ]
                clear q6 fz8
                refine wpAnyH_done (by kernel_rfl) ?_ _
                go_wp2_with fail
                rw [HR4.out, HLE.out]
                go_ret
                exact ⟨rfl, Chd.mk HX.out.1 HX.out.2 HE7⟩
              refine consT rfl (fun KK hKK => ?_) ?_
              · skip
                go_simp
                refine (GL8.out _ bT).mono ?_
                rintro e wc ⟨rfl, bc⟩
                have bC := bc
                replace bT := bT.trans (bC.mono bT.size)
                replace h8 := h8.later bC
                replace k6 := below_cell bC k6
                clear bC
                go_wp2_with fail
                clear bc
                refine hKK.out _ _ hHeld ?_
                clear hHeld
                intro hHeld
                clear hKK KK
                try simp only [Act.put, List.setIfInBounds_toArray, List.set_cons_zero, List.set_cons_succ]
                refine take' 8 (v := ?_) rfl (by kernel_rfl) (by kernel_rfl) (by kernel_rfl) (fun _ _ _ h => h) (Or.inl ⟨by rfl, ?_⟩) (by assumption) ?_
                rotate_left
                · intro w9 hSw
                  go_simp
                  first | done | with_reducible rfl
                simp only [Act.put, List.setIfInBounds_toArray, List.set_cons_zero, List.set_cons_succ]
                refine wpAnyH_ready (rs := [4, 9]) (by kernel_rfl) (by simp) ?_
                refine consT rfl (fun KK hKK => ?_) ?_
                · skip
                  go_simp
                  refine hKK.out _ _ hHeld ?_
                  clear hHeld
                  intro hHeld
                  clear hKK KK
                  try simp only [Act.put, List.setIfInBounds_toArray, List.set_cons_zero, List.set_cons_succ]
                  refine wpAnyH_ready (rs := [9]) (by kernel_rfl) (by simp) ?_
                  refine cons' rfl (fun KK hKK => ?_)
                  go_simp
                  have hnew := heap_alloc_new wc (.cells #[.int .i64 n, .int .i64 lv] 96)
                  have b3 := below_alloc (w := wc) (.cells #[.int .i64 n, .int .i64 lv] 96)
                  obtain ⟨na, hna⟩ : ∃ na, wc.heap.size = na := ⟨_, rfl⟩
                  rw [hna] at hnew
                  try rw [hna]
                  generalize wc.alloc (.cells #[.int .i64 n, .int .i64 lv] 96) = wd at hnew b3 ⊢
                  replace hnew : wd.heap[na]? = _ := hnew
                  replace bT := bT.trans (b3.mono bT.size)
                  replace h8 := h8.later b3
                  replace k6 := below_cell b3 k6
                  clear b3 hna
                  refine hKK.out _ _ hHeld ?_
                  clear hHeld
                  intro hHeld
                  clear hKK KK
                  try simp only [Act.put, List.setIfInBounds_toArray, List.set_cons_zero, List.set_cons_succ]
                  refine wpAnyH_ready (rs := [10]) (by kernel_rfl) (by simp) ?_
                  refine cons' rfl (fun KK hKK => ?_)
                  have hO := h8.rla.1
                  have hl1 : x.la.length + 1 ≤ maxLen := by have := HM.out; have := HLV.out; have := HCL.out; omega
                  have hl2 : (x.la.length + 1) * 16 ≤ 140737488355328 := by have := HLV.out; have := HCL.out; omega
                  refine step_append_lies _ (by rfl) _ _ _ (by rfl) 0 96 li _ 2 16 Try.underlying66 hli hlz hls hlb rfl (by omega) (V7.la.val x.la.length) x.la.length (laC x.la) (by rfl) hO ⟨na, 0, none⟩ 1 1 [.int .i64 n, .int .i64 lv] (by rfl) (by rfl) (World.news_of_block (cs := #[.int .i64 n, .int .i64 lv]) (t := 96) (fr := (0, 0)) hnew) (by simp [Value.oneCell']) (by omega) hl1 hl2 (Nat.zero_le _) _ rfl ?_
                  intro gb cap w8 hown hgrow hat hlt
                  have RR := UM.app_la (zs := [((n : Int), lv)]) h8 hown rfl hgrow hat rfl hlt
                  have P4 := (h8.part .st).app (RowAt.app h8.rla hown hgrow hat rfl hlt).2 (by simp)
                  have q6 := P4.2.2.2.2.2.2.2.2
                  have fz8 := fun o => P4.2.1.frozen o
                  have HX := hide' (show _ ∧ Step ow _ w _ from ⟨RR.1, S8.trans ((Step.of_below bT).trans ⟨RR.2.1, RR.2.2⟩)⟩)
                  clear RR P4 hown hgrow hat hlt hO hl1 hl2 hnew k6 S8
                  refine hKK.out _ _ trivial ?_
                  clear hHeld
                  intro hHeld
                  clear hKK KK
                  try simp only [Act.put, List.setIfInBounds_toArray, List.set_cons_zero, List.set_cons_succ]
                  clear h8 bT
                  refine take' 11 (v := ?_) rfl (by kernel_rfl) (by kernel_rfl) (by kernel_rfl) (fun _ _ _ h => h) (Or.inl ⟨by rfl, ?_⟩) (by assumption) ?_
                  rotate_left
                  · intro w9 hSw
                    go_simp
                    first | done | with_reducible rfl
                  simp only [Act.put, List.setIfInBounds_toArray, List.set_cons_zero, List.set_cons_succ]
                  refine take' 12 (v := ?_) rfl (by kernel_rfl) (by kernel_rfl) (by kernel_rfl) (fun _ _ _ h => h) (Or.inl ⟨by rfl, ?_⟩) (by assumption) ?_
                  rotate_left
                  · intro w9 hSw
                    go_simp
                    first | done | with_reducible rfl
                  simp only [Act.put, List.setIfInBounds_toArray, List.set_cons_zero, List.set_cons_succ]
                  refine wpAnyH_ready (rs := [13]) (by kernel_rfl) (by simp) ?_
                  refine cons' rfl (fun KK hKK => ?_)
                  go_simp
                  refine hKK.out _ _ trivial ?_
                  clear hHeld
                  intro hHeld
                  clear hKK KK
                  try simp only [Act.put, List.setIfInBounds_toArray, List.set_cons_zero, List.set_cons_succ]
                  clear q6 fz8
                  refine wpAnyH_done (by kernel_rfl) ?_ _
                  go_wp2_with fail
                  rw [HR4.out, HLE.out]
                  go_ret
                  exact ⟨rfl, Chd.mk HX.out.1 HX.out.2 HE7⟩
                refine consT rfl (fun KK hKK => ?_) ?_
                · skip
                  go_simp
                  have hnew := heap_alloc_new wc (.cells #[.int .i64 n, .int .i64 lv] 96)
                  have b3 := below_alloc (w := wc) (.cells #[.int .i64 n, .int .i64 lv] 96)
                  obtain ⟨na, hna⟩ : ∃ na, wc.heap.size = na := ⟨_, rfl⟩
                  rw [hna] at hnew
                  try rw [hna]
                  generalize wc.alloc (.cells #[.int .i64 n, .int .i64 lv] 96) = wd at hnew b3 ⊢
                  replace hnew : wd.heap[na]? = _ := hnew
                  replace bT := bT.trans (b3.mono bT.size)
                  replace h8 := h8.later b3
                  replace k6 := below_cell b3 k6
                  clear b3 hna
                  refine hKK.out _ _ hHeld ?_
                  clear hHeld
                  intro hHeld
                  clear hKK KK
                  try simp only [Act.put, List.setIfInBounds_toArray, List.set_cons_zero, List.set_cons_succ]
                  refine wpAnyH_ready (rs := [4]) (by kernel_rfl) (by simp) ?_
                  refine cons' rfl (fun KK hKK => ?_)
                  go_simp
                  refine hKK.out _ _ hHeld ?_
                  clear hHeld
                  intro hHeld
                  clear hKK KK
                  try simp only [Act.put, List.setIfInBounds_toArray, List.set_cons_zero, List.set_cons_succ]
                  refine wpAnyH_ready (rs := [10]) (by kernel_rfl) (by simp) ?_
                  refine cons' rfl (fun KK hKK => ?_)
                  have hO := h8.rla.1
                  have hl1 : x.la.length + 1 ≤ maxLen := by have := HM.out; have := HLV.out; have := HCL.out; omega
                  have hl2 : (x.la.length + 1) * 16 ≤ 140737488355328 := by have := HLV.out; have := HCL.out; omega
                  refine step_append_lies _ (by rfl) _ _ _ (by rfl) 0 96 li _ 2 16 Try.underlying66 hli hlz hls hlb rfl (by omega) (V7.la.val x.la.length) x.la.length (laC x.la) (by rfl) hO ⟨na, 0, none⟩ 1 1 [.int .i64 n, .int .i64 lv] (by rfl) (by rfl) (World.news_of_block (cs := #[.int .i64 n, .int .i64 lv]) (t := 96) (fr := (0, 0)) hnew) (by simp [Value.oneCell']) (by omega) hl1 hl2 (Nat.zero_le _) _ rfl ?_
                  intro gb cap w8 hown hgrow hat hlt
                  have RR := UM.app_la (zs := [((n : Int), lv)]) h8 hown rfl hgrow hat rfl hlt
                  have P4 := (h8.part .st).app (RowAt.app h8.rla hown hgrow hat rfl hlt).2 (by simp)
                  have q6 := P4.2.2.2.2.2.2.2.2
                  have fz8 := fun o => P4.2.1.frozen o
                  have HX := hide' (show _ ∧ Step ow _ w _ from ⟨RR.1, S8.trans ((Step.of_below bT).trans ⟨RR.2.1, RR.2.2⟩)⟩)
                  clear RR P4 hown hgrow hat hlt hO hl1 hl2 hnew k6 S8
                  refine hKK.out _ _ trivial ?_
                  clear hHeld
                  intro hHeld
                  clear hKK KK
                  try simp only [Act.put, List.setIfInBounds_toArray, List.set_cons_zero, List.set_cons_succ]
                  clear h8 bT
                  refine take' 11 (v := ?_) rfl (by kernel_rfl) (by kernel_rfl) (by kernel_rfl) (fun _ _ _ h => h) (Or.inl ⟨by rfl, ?_⟩) (by assumption) ?_
                  rotate_left
                  · intro w9 hSw
                    go_simp
                    first | done | with_reducible rfl
                  simp only [Act.put, List.setIfInBounds_toArray, List.set_cons_zero, List.set_cons_succ]
                  refine take' 12 (v := ?_) rfl (by kernel_rfl) (by kernel_rfl) (by kernel_rfl) (fun _ _ _ h => h) (Or.inl ⟨by rfl, ?_⟩) (by assumption) ?_
                  rotate_left
                  · intro w9 hSw
                    go_simp
                    first | done | with_reducible rfl
                  simp only [Act.put, List.setIfInBounds_toArray, List.set_cons_zero, List.set_cons_succ]
                  refine wpAnyH_ready (rs := [13]) (by kernel_rfl) (by simp) ?_
                  refine cons' rfl (fun KK hKK => ?_)
                  go_simp
                  refine hKK.out _ _ trivial ?_
                  clear hHeld
                  intro hHeld
                  clear hKK KK
                  try simp only [Act.put, List.setIfInBounds_toArray, List.set_cons_zero, List.set_cons_succ]
                  clear q6 fz8
                  refine wpAnyH_done (by kernel_rfl) ?_ _
                  go_wp2_with fail
                  rw [HR4.out, HLE.out]
                  go_ret
                  exact ⟨rfl, Chd.mk HX.out.1 HX.out.2 HE7⟩
                exact AllReadyH.nil
              exact AllReadyH.nil
            · skip
              have HR4 := hide' (show R = (x, true) from HXE.out.trans (by rw [if_neg (by rw [HFO.out, HSS.out.1, HSS.out.2]; exact fun e => c4 e.2)]))
              go_wp2_with fail
              go_quiet (first | (go_at_call_of 63 (Value.int .i64 p'.l0); exact Calls.quiet_of_same (G0.out _ (below_drewN (Below.refl _ _)))) | (go_at_call_of 63 (Value.int .i64 p'.l1); exact Calls.quiet_of_same (G1.out _ (below_drewN (Below.refl _ _)))))
              go_wp2
              rw [HR4.out]
              go_ret
              exact ⟨rfl, Chd.mk (HU.out.1.later (below_drewN (Below.refl _ _))) (HU.out.2.trans (Step.of_below (below_drewN (Below.refl _ _)))) HE7⟩
          · have c3b : decide (p'.f1 ≤ (fo : Int)) = false := decide_eq_false c3
            have c3' := hide' c3
            clear c3
            have HR4 := hide' (show R = (x, true) from HXE.out.trans (by rw [if_neg (by rw [HFO.out]; exact fun e => c3'.out e.1)]))
            go_wp2_with fail
            go_quiet (first | (go_at_call_of 63 (Value.int .i64 p'.l0); exact Calls.quiet_of_same (G0.out _ (below_drewN (Below.refl _ _)))) | (go_at_call_of 63 (Value.int .i64 p'.l1); exact Calls.quiet_of_same (G1.out _ (below_drewN (Below.refl _ _)))))
            go_wp2
            rw [HR4.out]
            go_ret
            exact ⟨rfl, Chd.mk (HU.out.1.later (below_drewN (Below.refl _ _))) (HU.out.2.trans (Step.of_below (below_drewN (Below.refl _ _)))) HE7⟩
        · skip
          have HXE := hide' (show R = _ from HR3.out.trans (by rw [if_neg ct]))
          have ctb : (trv v p'.l0 == 0) = false := by simp [ct]
          have ct' := hide' ct
          clear HR3
          obtain ⟨t9, ht9⟩ : ∃ t, trv v p'.l0 = t := ⟨_, rfl⟩
          rw [ht9] at GT ctb ct
          clear ht9
          have HU := hide' (And.intro h5 (And.intro S5 p5))
          clear h5 S5 p5
          have IX := HIV
          have hx7 := hxl.2
          have hy7 := hyl
          go_wp2_with fail
          refine GT.out.mono ?_
          rintro e x5 ⟨rfl, hx5⟩
          rw [hx5]
          clear hx5 x5 GT
          have h7 := HU.out.1
          have S7 := HU.out.2.1
          have p7 := HU.out.2.2
          have HE7 := HE.out.2
          clear HU
          go_wp2_with fail
          obtain ⟨_, _, _, m3⟩ := p7.cell
          have k4 := h7.cells.2.2.2.2.2.2.1
          have HXl := hide' (And.intro hx7 hy7)
          clear hx7 hy7
          have G0 := hide' (fun w' (hb : Below w5.heap.size w5 w') => since_is ow3 b V3 v p'.l0 HXl.out.1 w' (h7.later hb) IX.out.rd)
          have G1 := hide' (fun w' (hb : Below w5.heap.size w5 w') => since_is ow3 b V3 v p'.l1 HXl.out.2 w' (h7.later hb) IX.out.rd)
          have GLv := hide' (fun w' (hb : Below w5.heap.size w5 w') => level_is ow3 b V3 v w' (h7.later hb) IX.out.rd)
          have HU := hide' (And.intro h7 S7)
          clear h7 S7 p7
          have HLV := hide' IX.out.la_len
          have HCL := hide' IX.out.wo.cl
          obtain ⟨s0, hs0⟩ : ∃ s, sinceV v p'.l0 = s := ⟨_, rfl⟩
          obtain ⟨s1, hs1⟩ : ∃ s, sinceV v p'.l1 = s := ⟨_, rfl⟩
          rw [hs0] at G0
          rw [hs1] at G1
          have HSS := hide' (And.intro hs0 hs1)
          clear hs0 hs1
          obtain ⟨fo, hfo⟩ : ∃ f, v.fo = f := ⟨_, rfl⟩
          rw [hfo] at k4
          have HFO := hide' hfo
          clear hfo
          by_cases c3 : p'.f1 ≤ (fo : Int)
          · by_cases c4 : s1 < s0
            · skip
              have HR4 := hide' (show R = ({ v with la := v.la ++ [((n : Int), lvlV v)] }, true) from HXE.out.trans (by rw [if_pos (show p'.f1 ≤ (v.fo : Int) ∧ sinceV v p'.l0 > sinceV v p'.l1 from by rw [HFO.out, HSS.out.1, HSS.out.2]; exact ⟨c3, c4⟩)]))
              go_wp2_with fail
              go_quiet (first | (go_at_call_of 63 (Value.int .i64 p'.l0); exact Calls.quiet_of_same (G0.out _ (below_drewN (Below.refl _ _)))) | (go_at_call_of 63 (Value.int .i64 p'.l1); exact Calls.quiet_of_same (G1.out _ (below_drewN (Below.refl _ _)))))
              clear G0 G1
              obtain ⟨w8, hqw8⟩ : ∃ wq, w5.drewN nq = wq := ⟨_, rfl⟩
              rw [hqw8]
              have bQw8 : Below w5.heap.size w5 w8 := by subst hqw8; exact below_drewN (Below.refl _ _)
              clear hqw8
              have h8 := HU.out.1.later bQw8
              have S8 := HU.out.2.trans (Step.of_below bQw8)
              have GL8 := GLv.out w8 bQw8
              clear HU GLv m3 k4 bQw8
              have k6 := h8.cells.2.2.2.2.2.2.2.2
              obtain ⟨lv, hlv⟩ : ∃ l, lvlV v = l := ⟨_, rfl⟩
              have HLE := hide' hlv
              have GL8 := hide' (fun w' (hb : Below w8.heap.size w8 w') => level_is ow3 b V3 v w' (h8.later hb) IX.out.rd)
              rw [hlv] at GL8
              clear hlv
              go_wp2_with fail
              have bT : Below w8.heap.size w8 w8 := Below.refl _ _
              have bD : Below w8.heap.size w8 w8.drew := (Below.refl _ _).drew
              replace bT := bT.trans (bD.mono bT.size)
              replace h8 := h8.later bD
              replace k6 := below_cell bD k6
              refine wp_region_held_drew (S := fun w' => True) (by kernel_rfl) trivial (fun hHeld => ?_)
              generalize w8.drew = w9 at bD h8 k6 bT hHeld ⊢
              clear bD
              refine take' 0 (v := ?_) rfl (by kernel_rfl) (by kernel_rfl) (by kernel_rfl) (fun _ _ _ h => h) (Or.inl ⟨by rfl, ?_⟩) (by assumption) ?_
              rotate_left
              · intro w9 hSw
                go_simp
                first | done | with_reducible rfl
              simp only [Act.put, List.setIfInBounds_toArray, List.set_cons_zero, List.set_cons_succ]
              refine take' 1 (v := ?_) rfl (by kernel_rfl) (by kernel_rfl) (by kernel_rfl) (fun _ _ _ h => h) (Or.inl ⟨by rfl, ?_⟩) (by assumption) ?_
              rotate_left
              · intro w9 hSw
                go_simp
                first | done | with_reducible rfl
              simp only [Act.put, List.setIfInBounds_toArray, List.set_cons_zero, List.set_cons_succ]
              refine take' 2 (v := ?_) rfl (by kernel_rfl) (by kernel_rfl) (by kernel_rfl) (fun _ _ _ h => h) (Or.inl ⟨by rfl, ?_⟩) (by assumption) ?_
              rotate_left
              · intro w9 hSw
                go_simp
                first | done | with_reducible rfl
              simp only [Act.put, List.setIfInBounds_toArray, List.set_cons_zero, List.set_cons_succ]
              refine take' 3 (v := ?_) rfl (by kernel_rfl) (by kernel_rfl) (by kernel_rfl) (fun _ _ _ h => h) (Or.inl ⟨by rfl, ?_⟩) (by assumption) ?_
              rotate_left
              · intro w9 hSw
                go_simp
                first | done | with_reducible rfl
              simp only [Act.put, List.setIfInBounds_toArray, List.set_cons_zero, List.set_cons_succ]
              refine take' 5 (v := ?_) rfl (by kernel_rfl) (by kernel_rfl) (by kernel_rfl) (fun _ _ _ h => h) (Or.inl ⟨by rfl, ?_⟩) (by assumption) ?_
              rotate_left
              · intro w9 hSw
                go_simp
                first | done | with_reducible rfl
              simp only [Act.put, List.setIfInBounds_toArray, List.set_cons_zero, List.set_cons_succ]
              refine take' 6 (v := ?_) rfl (by kernel_rfl) (by kernel_rfl) (by kernel_rfl) (fun _ _ _ h => h) (Or.inl ⟨by rfl, ?_⟩) (by assumption) ?_
              rotate_left
              · intro w9 hSw
                go_simp
                first | done | with_reducible rfl
              simp only [Act.put, List.setIfInBounds_toArray, List.set_cons_zero, List.set_cons_succ]
              refine wpAnyH_ready (rs := [4, 7]) (by kernel_rfl) (by simp) ?_
              refine consT rfl (fun KK hKK => ?_) ?_
              · skip
                go_simp
                refine hKK.out _ _ hHeld ?_
                clear hHeld
                intro hHeld
                clear hKK KK
                try simp only [Act.put, List.setIfInBounds_toArray, List.set_cons_zero, List.set_cons_succ]
                refine wpAnyH_ready (rs := [7]) (by kernel_rfl) (by simp) ?_
                refine cons' rfl (fun KK hKK => ?_)
                go_simp
                refine (GL8.out _ bT).mono ?_
                rintro e wc ⟨rfl, bc⟩
                have bC := bc
                replace bT := bT.trans (bC.mono bT.size)
                replace h8 := h8.later bC
                replace k6 := below_cell bC k6
                clear bC
                go_wp2_with fail
                clear bc
                refine hKK.out _ _ hHeld ?_
                clear hHeld
                intro hHeld
                clear hKK KK
                try simp only [Act.put, List.setIfInBounds_toArray, List.set_cons_zero, List.set_cons_succ]
                refine take' 8 (v := ?_) rfl (by kernel_rfl) (by kernel_rfl) (by kernel_rfl) (fun _ _ _ h => h) (Or.inl ⟨by rfl, ?_⟩) (by assumption) ?_
                rotate_left
                · intro w9 hSw
                  go_simp
                  first | done | with_reducible rfl
                simp only [Act.put, List.setIfInBounds_toArray, List.set_cons_zero, List.set_cons_succ]
                refine wpAnyH_ready (rs := [9]) (by kernel_rfl) (by simp) ?_
                refine cons' rfl (fun KK hKK => ?_)
                go_simp
                have hnew := heap_alloc_new wc (.cells #[.int .i64 n, .int .i64 lv] 96)
                have b3 := below_alloc (w := wc) (.cells #[.int .i64 n, .int .i64 lv] 96)
                obtain ⟨na, hna⟩ : ∃ na, wc.heap.size = na := ⟨_, rfl⟩
                rw [hna] at hnew
                try rw [hna]
                generalize wc.alloc (.cells #[.int .i64 n, .int .i64 lv] 96) = wd at hnew b3 ⊢
                replace hnew : wd.heap[na]? = _ := hnew
                replace bT := bT.trans (b3.mono bT.size)
                replace h8 := h8.later b3
                replace k6 := below_cell b3 k6
                clear b3 hna
                refine hKK.out _ _ hHeld ?_
                clear hHeld
                intro hHeld
                clear hKK KK
                try simp only [Act.put, List.setIfInBounds_toArray, List.set_cons_zero, List.set_cons_succ]
                refine wpAnyH_ready (rs := [10]) (by kernel_rfl) (by simp) ?_
                refine cons' rfl (fun KK hKK => ?_)
                have hO := h8.rla.1
                have hl1 : v.la.length + 1 ≤ maxLen := by have := HM.out; have := HLV.out; have := HCL.out; omega
                have hl2 : (v.la.length + 1) * 16 ≤ 140737488355328 := by have := HLV.out; have := HCL.out; omega
                refine step_append_lies _ (by rfl) _ _ _ (by rfl) 0 96 li _ 2 16 Try.underlying66 hli hlz hls hlb rfl (by omega) (V3.la.val v.la.length) v.la.length (laC v.la) (by rfl) hO ⟨na, 0, none⟩ 1 1 [.int .i64 n, .int .i64 lv] (by rfl) (by rfl) (World.news_of_block (cs := #[.int .i64 n, .int .i64 lv]) (t := 96) (fr := (0, 0)) hnew) (by simp [Value.oneCell']) (by omega) hl1 hl2 (Nat.zero_le _) _ rfl ?_
                intro gb cap w8 hown hgrow hat hlt
                have RR := UM.app_la (zs := [((n : Int), lv)]) h8 hown rfl hgrow hat rfl hlt
                have P4 := (h8.part .st).app (RowAt.app h8.rla hown hgrow hat rfl hlt).2 (by simp)
                have q6 := P4.2.2.2.2.2.2.2.2
                have fz8 := fun o => P4.2.1.frozen o
                have HX := hide' (show _ ∧ Step ow _ w _ from ⟨RR.1, S8.trans ((Step.of_below bT).trans ⟨RR.2.1, RR.2.2⟩)⟩)
                clear RR P4 hown hgrow hat hlt hO hl1 hl2 hnew k6 S8
                refine hKK.out _ _ trivial ?_
                clear hHeld
                intro hHeld
                clear hKK KK
                try simp only [Act.put, List.setIfInBounds_toArray, List.set_cons_zero, List.set_cons_succ]
                clear h8 bT
                refine take' 11 (v := ?_) rfl (by kernel_rfl) (by kernel_rfl) (by kernel_rfl) (fun _ _ _ h => h) (Or.inl ⟨by rfl, ?_⟩) (by assumption) ?_
                rotate_left
                · intro w9 hSw
                  go_simp
                  first | done | with_reducible rfl
                simp only [Act.put, List.setIfInBounds_toArray, List.set_cons_zero, List.set_cons_succ]
                refine take' 12 (v := ?_) rfl (by kernel_rfl) (by kernel_rfl) (by kernel_rfl) (fun _ _ _ h => h) (Or.inl ⟨by rfl, ?_⟩) (by assumption) ?_
                rotate_left
                · intro w9 hSw
                  go_simp
                  first | done | with_reducible rfl
                simp only [Act.put, List.setIfInBounds_toArray, List.set_cons_zero, List.set_cons_succ]
                refine wpAnyH_ready (rs := [13]) (by kernel_rfl) (by simp) ?_
                refine cons' rfl (fun KK hKK => ?_)
                go_simp
                refine hKK.out _ _ trivial ?_
                clear hHeld
                intro hHeld
                clear hKK KK
                try simp only [Act.put, List.setIfInBounds_toArray, List.set_cons_zero, List.set_cons_succ]
                clear q6 fz8
                refine wpAnyH_done (by kernel_rfl) ?_ _
                go_wp2_with fail
                rw [HR4.out, HLE.out]
                go_ret
                exact ⟨rfl, Chd.mk HX.out.1 HX.out.2 HE7⟩
              refine consT rfl (fun KK hKK => ?_) ?_
              · skip
                go_simp
                refine (GL8.out _ bT).mono ?_
                rintro e wc ⟨rfl, bc⟩
                have bC := bc
                replace bT := bT.trans (bC.mono bT.size)
                replace h8 := h8.later bC
                replace k6 := below_cell bC k6
                clear bC
                go_wp2_with fail
                clear bc
                refine hKK.out _ _ hHeld ?_
                clear hHeld
                intro hHeld
                clear hKK KK
                try simp only [Act.put, List.setIfInBounds_toArray, List.set_cons_zero, List.set_cons_succ]
                refine take' 8 (v := ?_) rfl (by kernel_rfl) (by kernel_rfl) (by kernel_rfl) (fun _ _ _ h => h) (Or.inl ⟨by rfl, ?_⟩) (by assumption) ?_
                rotate_left
                · intro w9 hSw
                  go_simp
                  first | done | with_reducible rfl
                simp only [Act.put, List.setIfInBounds_toArray, List.set_cons_zero, List.set_cons_succ]
                refine wpAnyH_ready (rs := [4, 9]) (by kernel_rfl) (by simp) ?_
                refine consT rfl (fun KK hKK => ?_) ?_
                · skip
                  go_simp
                  refine hKK.out _ _ hHeld ?_
                  clear hHeld
                  intro hHeld
                  clear hKK KK
                  try simp only [Act.put, List.setIfInBounds_toArray, List.set_cons_zero, List.set_cons_succ]
                  refine wpAnyH_ready (rs := [9]) (by kernel_rfl) (by simp) ?_
                  refine cons' rfl (fun KK hKK => ?_)
                  go_simp
                  have hnew := heap_alloc_new wc (.cells #[.int .i64 n, .int .i64 lv] 96)
                  have b3 := below_alloc (w := wc) (.cells #[.int .i64 n, .int .i64 lv] 96)
                  obtain ⟨na, hna⟩ : ∃ na, wc.heap.size = na := ⟨_, rfl⟩
                  rw [hna] at hnew
                  try rw [hna]
                  generalize wc.alloc (.cells #[.int .i64 n, .int .i64 lv] 96) = wd at hnew b3 ⊢
                  replace hnew : wd.heap[na]? = _ := hnew
                  replace bT := bT.trans (b3.mono bT.size)
                  replace h8 := h8.later b3
                  replace k6 := below_cell b3 k6
                  clear b3 hna
                  refine hKK.out _ _ hHeld ?_
                  clear hHeld
                  intro hHeld
                  clear hKK KK
                  try simp only [Act.put, List.setIfInBounds_toArray, List.set_cons_zero, List.set_cons_succ]
                  refine wpAnyH_ready (rs := [10]) (by kernel_rfl) (by simp) ?_
                  refine cons' rfl (fun KK hKK => ?_)
                  have hO := h8.rla.1
                  have hl1 : v.la.length + 1 ≤ maxLen := by have := HM.out; have := HLV.out; have := HCL.out; omega
                  have hl2 : (v.la.length + 1) * 16 ≤ 140737488355328 := by have := HLV.out; have := HCL.out; omega
                  refine step_append_lies _ (by rfl) _ _ _ (by rfl) 0 96 li _ 2 16 Try.underlying66 hli hlz hls hlb rfl (by omega) (V3.la.val v.la.length) v.la.length (laC v.la) (by rfl) hO ⟨na, 0, none⟩ 1 1 [.int .i64 n, .int .i64 lv] (by rfl) (by rfl) (World.news_of_block (cs := #[.int .i64 n, .int .i64 lv]) (t := 96) (fr := (0, 0)) hnew) (by simp [Value.oneCell']) (by omega) hl1 hl2 (Nat.zero_le _) _ rfl ?_
                  intro gb cap w8 hown hgrow hat hlt
                  have RR := UM.app_la (zs := [((n : Int), lv)]) h8 hown rfl hgrow hat rfl hlt
                  have P4 := (h8.part .st).app (RowAt.app h8.rla hown hgrow hat rfl hlt).2 (by simp)
                  have q6 := P4.2.2.2.2.2.2.2.2
                  have fz8 := fun o => P4.2.1.frozen o
                  have HX := hide' (show _ ∧ Step ow _ w _ from ⟨RR.1, S8.trans ((Step.of_below bT).trans ⟨RR.2.1, RR.2.2⟩)⟩)
                  clear RR P4 hown hgrow hat hlt hO hl1 hl2 hnew k6 S8
                  refine hKK.out _ _ trivial ?_
                  clear hHeld
                  intro hHeld
                  clear hKK KK
                  try simp only [Act.put, List.setIfInBounds_toArray, List.set_cons_zero, List.set_cons_succ]
                  clear h8 bT
                  refine take' 11 (v := ?_) rfl (by kernel_rfl) (by kernel_rfl) (by kernel_rfl) (fun _ _ _ h => h) (Or.inl ⟨by rfl, ?_⟩) (by assumption) ?_
                  rotate_left
                  · intro w9 hSw
                    go_simp
                    first | done | with_reducible rfl
                  simp only [Act.put, List.setIfInBounds_toArray, List.set_cons_zero, List.set_cons_succ]
                  refine take' 12 (v := ?_) rfl (by kernel_rfl) (by kernel_rfl) (by kernel_rfl) (fun _ _ _ h => h) (Or.inl ⟨by rfl, ?_⟩) (by assumption) ?_
                  rotate_left
                  · intro w9 hSw
                    go_simp
                    first | done | with_reducible rfl
                  simp only [Act.put, List.setIfInBounds_toArray, List.set_cons_zero, List.set_cons_succ]
                  refine wpAnyH_ready (rs := [13]) (by kernel_rfl) (by simp) ?_
                  refine cons' rfl (fun KK hKK => ?_)
                  go_simp
                  refine hKK.out _ _ trivial ?_
                  clear hHeld
                  intro hHeld
                  clear hKK KK
                  try simp only [Act.put, List.setIfInBounds_toArray, List.set_cons_zero, List.set_cons_succ]
                  clear q6 fz8
                  refine wpAnyH_done (by kernel_rfl) ?_ _
                  go_wp2_with fail
                  rw [HR4.out, HLE.out]
                  go_ret
                  exact ⟨rfl, Chd.mk HX.out.1 HX.out.2 HE7⟩
                refine consT rfl (fun KK hKK => ?_) ?_
                · skip
                  go_simp
                  have hnew := heap_alloc_new wc (.cells #[.int .i64 n, .int .i64 lv] 96)
                  have b3 := below_alloc (w := wc) (.cells #[.int .i64 n, .int .i64 lv] 96)
                  obtain ⟨na, hna⟩ : ∃ na, wc.heap.size = na := ⟨_, rfl⟩
                  rw [hna] at hnew
                  try rw [hna]
                  generalize wc.alloc (.cells #[.int .i64 n, .int .i64 lv] 96) = wd at hnew b3 ⊢
                  replace hnew : wd.heap[na]? = _ := hnew
                  replace bT := bT.trans (b3.mono bT.size)
                  replace h8 := h8.later b3
                  replace k6 := below_cell b3 k6
                  clear b3 hna
                  refine hKK.out _ _ hHeld ?_
                  clear hHeld
                  intro hHeld
                  clear hKK KK
                  try simp only [Act.put, List.setIfInBounds_toArray, List.set_cons_zero, List.set_cons_succ]
                  refine wpAnyH_ready (rs := [4]) (by kernel_rfl) (by simp) ?_
                  refine cons' rfl (fun KK hKK => ?_)
                  go_simp
                  refine hKK.out _ _ hHeld ?_
                  clear hHeld
                  intro hHeld
                  clear hKK KK
                  try simp only [Act.put, List.setIfInBounds_toArray, List.set_cons_zero, List.set_cons_succ]
                  refine wpAnyH_ready (rs := [10]) (by kernel_rfl) (by simp) ?_
                  refine cons' rfl (fun KK hKK => ?_)
                  have hO := h8.rla.1
                  have hl1 : v.la.length + 1 ≤ maxLen := by have := HM.out; have := HLV.out; have := HCL.out; omega
                  have hl2 : (v.la.length + 1) * 16 ≤ 140737488355328 := by have := HLV.out; have := HCL.out; omega
                  refine step_append_lies _ (by rfl) _ _ _ (by rfl) 0 96 li _ 2 16 Try.underlying66 hli hlz hls hlb rfl (by omega) (V3.la.val v.la.length) v.la.length (laC v.la) (by rfl) hO ⟨na, 0, none⟩ 1 1 [.int .i64 n, .int .i64 lv] (by rfl) (by rfl) (World.news_of_block (cs := #[.int .i64 n, .int .i64 lv]) (t := 96) (fr := (0, 0)) hnew) (by simp [Value.oneCell']) (by omega) hl1 hl2 (Nat.zero_le _) _ rfl ?_
                  intro gb cap w8 hown hgrow hat hlt
                  have RR := UM.app_la (zs := [((n : Int), lv)]) h8 hown rfl hgrow hat rfl hlt
                  have P4 := (h8.part .st).app (RowAt.app h8.rla hown hgrow hat rfl hlt).2 (by simp)
                  have q6 := P4.2.2.2.2.2.2.2.2
                  have fz8 := fun o => P4.2.1.frozen o
                  have HX := hide' (show _ ∧ Step ow _ w _ from ⟨RR.1, S8.trans ((Step.of_below bT).trans ⟨RR.2.1, RR.2.2⟩)⟩)
                  clear RR P4 hown hgrow hat hlt hO hl1 hl2 hnew k6 S8
                  refine hKK.out _ _ trivial ?_
                  clear hHeld
                  intro hHeld
                  clear hKK KK
                  try simp only [Act.put, List.setIfInBounds_toArray, List.set_cons_zero, List.set_cons_succ]
                  clear h8 bT
                  refine take' 11 (v := ?_) rfl (by kernel_rfl) (by kernel_rfl) (by kernel_rfl) (fun _ _ _ h => h) (Or.inl ⟨by rfl, ?_⟩) (by assumption) ?_
                  rotate_left
                  · intro w9 hSw
                    go_simp
                    first | done | with_reducible rfl
                  simp only [Act.put, List.setIfInBounds_toArray, List.set_cons_zero, List.set_cons_succ]
                  refine take' 12 (v := ?_) rfl (by kernel_rfl) (by kernel_rfl) (by kernel_rfl) (fun _ _ _ h => h) (Or.inl ⟨by rfl, ?_⟩) (by assumption) ?_
                  rotate_left
                  · intro w9 hSw
                    go_simp
                    first | done | with_reducible rfl
                  simp only [Act.put, List.setIfInBounds_toArray, List.set_cons_zero, List.set_cons_succ]
                  refine wpAnyH_ready (rs := [13]) (by kernel_rfl) (by simp) ?_
                  refine cons' rfl (fun KK hKK => ?_)
                  go_simp
                  refine hKK.out _ _ trivial ?_
                  clear hHeld
                  intro hHeld
                  clear hKK KK
                  try simp only [Act.put, List.setIfInBounds_toArray, List.set_cons_zero, List.set_cons_succ]
                  clear q6 fz8
                  refine wpAnyH_done (by kernel_rfl) ?_ _
                  go_wp2_with fail
                  rw [HR4.out, HLE.out]
                  go_ret
                  exact ⟨rfl, Chd.mk HX.out.1 HX.out.2 HE7⟩
                exact AllReadyH.nil
              exact AllReadyH.nil
            · skip
              have HR4 := hide' (show R = (v, true) from HXE.out.trans (by rw [if_neg (by rw [HFO.out, HSS.out.1, HSS.out.2]; exact fun e => c4 e.2)]))
              go_wp2_with fail
              go_quiet (first | (go_at_call_of 63 (Value.int .i64 p'.l0); exact Calls.quiet_of_same (G0.out _ (below_drewN (Below.refl _ _)))) | (go_at_call_of 63 (Value.int .i64 p'.l1); exact Calls.quiet_of_same (G1.out _ (below_drewN (Below.refl _ _)))))
              go_wp2
              rw [HR4.out]
              go_ret
              exact ⟨rfl, Chd.mk (HU.out.1.later (below_drewN (Below.refl _ _))) (HU.out.2.trans (Step.of_below (below_drewN (Below.refl _ _)))) HE7⟩
          · have c3b : decide (p'.f1 ≤ (fo : Int)) = false := decide_eq_false c3
            have c3' := hide' c3
            clear c3
            have HR4 := hide' (show R = (v, true) from HXE.out.trans (by rw [if_neg (by rw [HFO.out]; exact fun e => c3'.out e.1)]))
            go_wp2_with fail
            go_quiet (first | (go_at_call_of 63 (Value.int .i64 p'.l0); exact Calls.quiet_of_same (G0.out _ (below_drewN (Below.refl _ _)))) | (go_at_call_of 63 (Value.int .i64 p'.l1); exact Calls.quiet_of_same (G1.out _ (below_drewN (Below.refl _ _)))))
            go_wp2
            rw [HR4.out]
            go_ret
            exact ⟨rfl, Chd.mk (HU.out.1.later (below_drewN (Below.refl _ _))) (HU.out.2.trans (Step.of_below (below_drewN (Below.refl _ _)))) HE7⟩
    · have c0b : (p'.f0 == 9223372036854775807) = false := by unfold nev at c0; simp [c0]
      have HR3 := hide' (show R = (v, false) from by rw [HR.out, if_pos c0])
      have c0' := hide' c0
      clear c0 HR
      go_wp2_with fail
      rw [HR3.out]
      go_wp2
      go_ret
      exact ⟨rfl, Chd.mk HS.out.1 HS.out.2.1 (HS.out.2.2.2.2)⟩
end Go.Proofs.Ytfodejhipnmgnaa
