import Derived.Test.YtebbehlfocpjhaaGreatWN4
set_option linter.unusedSimpArgs false
namespace Go.Proofs.YtebbehlfocpjhaaGreat
open Go.RowKit
set_option linter.unusedVariables false
theorem sgn_zero_iff (Z : Int) : sgn Z = 0 ↔ Z = 0 := by
  unfold sgn
  split
  · exact ⟨fun h => absurd h (by omega), fun h => absurd h (by omega)⟩
  · split
    · rename_i h1 h2; exact ⟨fun _ => h2, fun _ => rfl⟩
    · rename_i h1 h2; exact ⟨fun h => absurd h (by omega), fun h => absurd h h2⟩
theorem add_sz {w : World} {x y : Int} {P Q : RatV} {Z : Int} {V : Nat} (eP : EntS w (x, P)) (eQ : EntS w (y, Q)) (hL : Low (rn P.s P.X P.Y * (rd Q.Y : Nat) + rn Q.s Q.X Q.Y * (rd P.Y : Nat)) ((rd P.Y : Nat) * (rd Q.Y : Nat)) Z V) : ln (am Z) ≤ 35184372087808 ∧ ln V ≤ 35184372087808 := by
  have h1 : P.n ≤ 1099511627776 := eP.ln1
  have h2 : P.m ≤ 1099511627776 := eP.ln2
  have h3 : Q.n ≤ 1099511627776 := eQ.ln1
  have h4 : Q.m ≤ 1099511627776 := eQ.ln2
  have hp := eP.ent.ok
  have hq := eQ.ent.ok
  refine ln1 (i := P.n + Q.m + Q.n + P.m + 4) (j := (P.m + 1) + (Q.m + 1)) hL ?_ (lt_prod (by show rd _ < _; exact rd_lt hp.2.2.2.1.1) (by show rd _ < _; exact rd_lt hq.2.2.2.1.1)) (by omega) (by omega)
  exact lt_sum (i := P.n + (Q.m + 1)) (j := Q.n + (P.m + 1)) (lt_prod (Nat.lt_of_le_of_lt (rn_am _ _ _) hp.1.1) (by show rd _ < _; exact rd_lt hq.2.2.2.1.1)) (lt_prod (Nat.lt_of_le_of_lt (rn_am _ _ _) hq.1.1) (by show rd _ < _; exact rd_lt hp.2.2.2.1.1)) (by omega) (by omega)
set_option maxHeartbeats 8000000 in
set_option maxRecDepth 100000 in
theorem merge_new (a : Option Addr) (ca : Nat) (L : List Mo) (b : Option Addr) (cb : Nat) (M : List Mo) (w : World) (sa : Sl w a ca L) (sb : Sl w b cb M) (ea : ∀ p ∈ L, EntS w p) (eb : ∀ p ∈ M, EntS w p) (hK : L.length + M.length ≤ 2097152) :
    Calls Tryz.prog 60 #[.slice a L.length ca, .slice b M.length cb, .func (.func 61) #[] #[], .func (.func 62) #[] #[]] w (FNew w w.heap.size (mrg (fo L) (fo M))) := by
  obtain ⟨i0, hi0, hz0, hz1, hz2⟩ := info_parts info_Mono
  obtain ⟨w1, mk, own1, gr1⟩ := run_make_own (P := Tryz.prog) w w.heap.size 22 42 i0 _ 4 Tryz.underlying22 hi0 hz0 hz1 .i64 .i64 (L.length + M.length) (by rw [hz2]; omega) (by simp only [maxLen]; omega) (Nat.le_refl _)
  rw [Int.natCast_add] at mk
  obtain ⟨T, hT⟩ : ∃ T, mrg (fo L) (fo M) = T := ⟨_, rfl⟩
  rw [hT]
  have I0 : MInv w T (L.length + M.length) (.slice a L.length ca) (.slice b M.length cb) (.slice (some ⟨w.heap.size, 0, none⟩) 0 (L.length + M.length)) w1 := ⟨a, ca, L, b, cb, M, [], rfl, rfl, sa, sb, ea, eb, own1, below_grown (Nat.le_refl _) (fun k h => by cases h) gr1, fun p hp => by simp at hp, by rw [← hT]; rfl, by simp⟩
  have l0 : (0 : Int) ≤ (L.length : Int) := by omega
  have l1 : (0 : Int) ≤ (M.length : Int) := by omega
  have l2 : (L.length : Int) + (M.length : Int) ≤ 2097152 := by omega
  clear own1 gr1 hT sa sb ea eb
  go_enter Tryz.func60, Tryz.ntmps60
  go_wp2_with fail
  go_loopw [0, 1, 9] (fun va vb vo wr => MInv w T (L.length + M.length) va vb vo wr) (fun va vb _ _ => slen va + slen vb)
  case atStart => exact I0
  case round =>
    clear I0 mk
    obtain ⟨a, ca, L9, b, cb, M9, R, rfl, rfl, sa, sb, ea, eb, hO, hB, hR, hT, hlen⟩ := hrel
    have hbs := hB.size
    generalize hKK9 : L.length + M.length = KK9 at *
    have hrow := fun k hk => (hO.lt k hk)
    cases L9 with
    | nil =>
      have n0 : ([] : List Mo).length = 0 := rfl
      rw [n0]
      have sa9 := sa.later hB
      go_wp2_with (at_builtin; refine wpList_append_form (by rfl) _ _ _ (by rfl) w.heap.size u9 R [] a ca Tryz.underlying22 (by rfl) (by rfl) hO sa9 (by omega) hbs ?_)
      intro v2 w2 hO2 hg2 hat2
      have b2 := below_grown hB.size (fun k hk => (hrow k hk).1) hg2
      have hB2 := hB.trans b2
      have hR2 := grw_all hR (fun q hq => (ea q hq).ent.grw hB (fun b e => (hrow b e).1)) hg2 hat2
      have hrow2 : ∀ k, v2.ownBlock = some k → w.heap.size ≤ k := fun k hk => by
        rcases hat2 with h | h
        · rw [h] at hk; exact (hrow k hk).1
        · rw [h] at hk; obtain rfl := Option.some.inj hk; exact hB.size
      simp only [List.append_nil] at hR2
      have sb9 := sb.later hB2
      have hbs2 := hB2.size
      have hl2 : R.length + M9.length ≤ 4194304 := by (try rw [List.length_append]); omega
      go_wp2_with (at_builtin; refine wpList_append_form (by rfl) _ _ _ (by rfl) w.heap.size v2 R M9 b cb Tryz.underlying22 (by rfl) (by rfl) hO2 sb9 hl2 hbs2 ?_)
      intro v3 w3 hO3 hg3 hat3
      have b3 := below_grown hB2.size hrow2 hg3
      have hR3 := grw_all hR2 (fun q hq => (eb q hq).ent.grw hB2 hrow2) hg3 hat3
      rw [← List.length_append] at hO3
      obtain ⟨a3, c3, e3, s3⟩ := Sl.of hO3
      subst e3
      have fr3 := own_new hO3
      go_wp2
      go_ret
      refine ⟨a3, c3, _, rfl, hB2.trans b3, s3, fun q hq => (hR3 q hq).ent, ?_, fr3⟩
      rw [← hT, fo_append]
      congr 1
      show fo M9 = mrg [] (fo M9); rw [mrg_nil_left]
    | cons p L9 =>
      obtain ⟨x, P⟩ := p
      obtain ⟨n, hn⟩ : ∃ n, ((x, P) :: L9 : List Mo).length = n := ⟨_, rfl⟩
      have hn1 : n = L9.length + 1 := by rw [← hn]; rfl
      have i1 : (0 : Int) < (n : Int) := by omega
      have i1n : 0 < n := by omega
      cases M9 with
      | nil =>
        have n0 : ([] : List Mo).length = 0 := rfl
        rw [n0, hn]
        have HN := hide' hn1
        clear hn1
        have sa9 := sa.later hB
        go_wp2_with (at_builtin; refine wpList_append_form (by rfl) _ _ _ (by rfl) w.heap.size u9 R ((x, P) :: L9) a ca Tryz.underlying22 (by rfl) (by rw [hn]; rfl) hO sa9 (by omega) hbs ?_)
        intro v2 w2 hO2 hg2 hat2
        have b2 := below_grown hB.size (fun k hk => (hrow k hk).1) hg2
        have hB2 := hB.trans b2
        have hR2 := grw_all hR (fun q hq => (ea q hq).ent.grw hB (fun b e => (hrow b e).1)) hg2 hat2
        have hrow2 : ∀ k, v2.ownBlock = some k → w.heap.size ≤ k := fun k hk => by
          rcases hat2 with h | h
          · rw [h] at hk; exact (hrow k hk).1
          · rw [h] at hk; obtain rfl := Option.some.inj hk; exact hB.size
        have sb9 := sb.later hB2
        have hbs2 := hB2.size
        replace hO2 : w2.ownsRow w.heap.size 42 4 v2 (R ++ ((x, P) :: L9)).length (cellsF (R ++ ((x, P) :: L9))) := by rw [List.length_append, hn]; exact hO2
        have hl2 : (R ++ ((x, P) :: L9)).length + ([] : List Mo).length ≤ 4194304 := by (try rw [List.length_append]); omega
        go_wp2_with (at_builtin; refine wpList_append_form (by rfl) _ _ _ (by rfl) w.heap.size v2 (R ++ ((x, P) :: L9)) ([] : List Mo) b cb Tryz.underlying22 (by rfl) (by rfl) hO2 sb9 hl2 hbs2 ?_)
        intro v3 w3 hO3 hg3 hat3
        have b3 := below_grown hB2.size hrow2 hg3
        have hR3 := grw_all hR2 (fun q hq => (eb q hq).ent.grw hB2 hrow2) hg3 hat3
        replace hO3 : w3.ownsRow w.heap.size 42 4 v3 (R ++ ((x, P) :: L9)).length (cellsF (R ++ ((x, P) :: L9))) := by rw [List.length_append, hn]; exact hO3
        simp only [List.append_nil] at hR3
        obtain ⟨a3, c3, e3, s3⟩ := Sl.of hO3
        subst e3
        have fr3 := own_new hO3
        go_wp2
        go_ret
        refine ⟨a3, c3, _, rfl, hB2.trans b3, s3, fun q hq => (hR3 q hq).ent, ?_, fr3⟩
        rw [← hT, fo_append]
        congr 1
        show fo ((x, P) :: L9) = mrg (fo ((x, P) :: L9)) []; rw [mrg_nil_right]
      | cons q M9 =>
        obtain ⟨y, Q⟩ := q
        obtain ⟨m, hm⟩ : ∃ m, ((y, Q) :: M9 : List Mo).length = m := ⟨_, rfl⟩
        have hm1 : m = M9.length + 1 := by rw [← hm]; rfl
        have i2 : (0 : Int) < (m : Int) := by omega
        have i2n : 0 < m := by omega
        have hca : n ≤ ca := by have := sa.len; omega
        have hcb : m ≤ cb := by have := sb.len; omega
        obtain ⟨b1, o1, rfl, hb1, ⟨c0, c1, c2, c3⟩, fa⟩ := sa.lies.head
        obtain ⟨b2, o2, rfl, hb2, ⟨d0, d1, d2, d3⟩, fb⟩ := sb.lies.head
        simp only at c0 c1 c2 c3 d0 d1 d2 d3
        have eP := ea (x, P) List.mem_cons_self
        have eQ := eb (y, Q) List.mem_cons_self
        have eL : ∀ p ∈ L9, EntS w p := fun p hp => ea p (List.mem_cons_of_mem _ hp)
        have eM : ∀ p ∈ M9, EntS w p := fun p hp => eb p (List.mem_cons_of_mem _ hp)
        obtain ⟨a1, sl1, sa1⟩ := sl_restM b1 o1 n ca 1 (by omega) hca
        obtain ⟨a2, sl2, sa2⟩ := sl_restM b2 o2 m cb 1 (by omega) hcb
        have z1 : ((1 : Nat) : Int) = 1 := rfl
        simp only [z1] at sl1 sl2
        have tL : Sl w a1 (ca - 1) L9 := ⟨fun hne => by
          have h1 : 1 < n := by rw [hn1]; have := List.length_pos_iff.2 hne; omega
          rw [sa1.2 h1]; exact fa hne, by omega, fun e => absurd e sa1.1⟩
        have tM : Sl w a2 (cb - 1) M9 := ⟨fun hne => by
          have h1 : 1 < m := by rw [hm1]; have := List.length_pos_iff.2 hne; omega
          rw [sa2.2 h1]; exact fb hne, by omega, fun e => absurd e sa2.1⟩
        replace c0 := below_cell hB c0
        replace c1 := below_cell hB c1
        replace c2 := below_cell hB c2
        replace c3 := below_cell hB c3
        replace d0 := below_cell hB d0
        replace d1 := below_cell hB d1
        replace d2 := below_cell hB d2
        replace d3 := below_cell hB d3
        have nL : n - 1 = L9.length := by omega
        have nM : m - 1 = M9.length := by omega
        rw [nL] at sl1
        rw [nM] at sl2
        have HN := hide' (And.intro hn1 hm1)
        have GB' := fun w' => byVar_is x y P.s P.a P.n P.c P.b P.m P.e Q.s Q.a Q.n Q.c Q.b Q.m Q.e w'
        rw [hn, hm]
        clear hn1 hm1 nL nM fa fb sa1 sa2 z1 ea eb
        rcases Int.lt_trichotomy x y with hxy | hxy | hxy
        · have ho : ord x y = -1 := if_pos hxy
          rw [ho] at GB'
          clear ho
          have GB := hide' GB'
          clear GB'
          go_wp2_with fail
          clear hbs
          have hO9 := hO
          have hR9 := hR
          have bD : Below wr.heap.size wr wr.drew := (Below.refl _ _).drew
          have kc0 := below_cell bD c0
          have kc1 := below_cell bD c1
          have kc2 := below_cell bD c2
          have kc3 := below_cell bD c3
          have kd0 := below_cell bD d0
          have kd1 := below_cell bD d1
          have kd2 := below_cell bD d2
          have kd3 := below_cell bD d3
          replace hB := hB.trans (bD.mono hB.size)
          replace c0 := below_cell bD c0
          replace c1 := below_cell bD c1
          replace c2 := below_cell bD c2
          replace c3 := below_cell bD c3
          replace d0 := below_cell bD d0
          replace d1 := below_cell bD d1
          replace d2 := below_cell bD d2
          replace d3 := below_cell bD d3
          refine wp_region_held_drew (S := fun w' => w'.cell? ⟨b1, o1, none⟩ = some (.int .i64 x) ∧ w'.cell? ⟨b1, o1 + 1, none⟩ = some (.bool P.s) ∧ w'.cell? ⟨b1, o1 + 1 + 1, none⟩ = some (.slice P.a P.n P.c) ∧ w'.cell? ⟨b1, o1 + 1 + 2, none⟩ = some (.slice P.b P.m P.e) ∧ w'.cell? ⟨b2, o2, none⟩ = some (.int .i64 y) ∧ w'.cell? ⟨b2, o2 + 1, none⟩ = some (.bool Q.s) ∧ w'.cell? ⟨b2, o2 + 1 + 1, none⟩ = some (.slice Q.a Q.n Q.c) ∧ w'.cell? ⟨b2, o2 + 1 + 2, none⟩ = some (.slice Q.b Q.m Q.e)) (by kernel_rfl) ⟨kc0, kc1, kc2, kc3, kd0, kd1, kd2, kd3⟩ (fun hHeld => ?_)
          clear kc0 kc1 kc2 kc3 kd0 kd1 kd2 kd3
          generalize wr.drew = w0 at bD c0 c1 c2 c3 d0 d1 d2 d3 hB hHeld ⊢
          refine tk 0 (v := ?_) rfl (Or.inl ⟨by rfl, ?_⟩) ?_
          rotate_left
          · intro w9 hSw
            go_simp
            first | done | with_reducible rfl
          simp only [pP, pN, pS, pZ, pC]
          refine tk 1 (v := ?_) rfl (Or.inl ⟨by rfl, ?_⟩) ?_
          rotate_left
          · intro w9 hSw
            go_simp
            first | done | with_reducible rfl
          simp only [pP, pN, pS, pZ, pC]
          refine tk 2 (v := ?_) rfl (Or.inl ⟨by rfl, ?_⟩) ?_
          rotate_left
          · intro w9 hSw
            go_simp
            first | done | with_reducible rfl
          simp only [pP, pN, pS, pZ, pC]
          refine tk 3 (v := ?_) rfl (Or.inl ⟨by rfl, ?_⟩) ?_
          rotate_left
          · intro w9 hSw
            go_simp
            first | done | with_reducible rfl
          simp only [pP, pN, pS, pZ, pC]
          refine tk 4 (v := ?_) rfl (Or.inl ⟨by rfl, ?_⟩) ?_
          rotate_left
          · intro w9 hSw
            go_simp
            first | done | with_reducible rfl
          simp only [pP, pN, pS, pZ, pC]
          refine tk 5 (v := ?_) rfl (Or.inl ⟨by rfl, ?_⟩) ?_
          rotate_left
          · intro w9 hSw
            go_simp
            first | done | with_reducible rfl
          simp only [pP, pN, pS, pZ, pC]
          refine tk 6 (v := ?_) rfl (Or.inl ⟨by rfl, ?_⟩) ?_
          rotate_left
          · intro w9 hSw
            go_simp
            first | done | with_reducible rfl
          simp only [pP, pN, pS, pZ, pC]
          refine wpAnyH_ready (rs := [7]) (by kernel_rfl) (by simp) ?_
          refine cons' rfl (fun KK hKK => ?_)
          go_simp
          refine (GB.out _).mono ?_
          rintro e w6 ⟨rfl, b6⟩
          have bC := b6
          replace hB := hB.trans (bC.mono hB.size)
          replace c0 := below_cell bC c0
          replace c1 := below_cell bC c1
          replace c2 := below_cell bC c2
          replace c3 := below_cell bC c3
          replace d0 := below_cell bC d0
          replace d1 := below_cell bC d1
          replace d2 := below_cell bC d2
          replace d3 := below_cell bC d3
          replace hHeld := (⟨below_cell bC hHeld.1, below_cell bC hHeld.2.1, below_cell bC hHeld.2.2.1, below_cell bC hHeld.2.2.2.1, below_cell bC hHeld.2.2.2.2.1, below_cell bC hHeld.2.2.2.2.2.1, below_cell bC hHeld.2.2.2.2.2.2.1, below_cell bC hHeld.2.2.2.2.2.2.2⟩ : _ ∧ _ ∧ _ ∧ _ ∧ _ ∧ _ ∧ _ ∧ _)
          clear bC
          go_wp2_with fail
          have bT := bD.trans (b6.mono bD.size)
          refine hKK.out _ _ hHeld ?_
          clear hHeld
          intro hHeld
          clear hKK KK
          try simp only [pP, pN, pS, pZ, pC]
          refine tk 8 (v := ?_) rfl (Or.inl ⟨by rfl, ?_⟩) ?_
          rotate_left
          · intro w9 hSw
            go_simp
            first | done | with_reducible rfl
          simp only [pP, pN, pS, pZ, pC]
          refine wpAnyH_done (by kernel_rfl) ?_ _
          replace hO := own_below hO bT
          replace hR := fun p hp => (hR p hp).later bT
          replace hrow := fun k hk => (hO.lt k hk)
          have hbs := hB.size
          clear bT bD b6 hO9 hR9 hHeld GB
          go_wp2_with fail
          have bD : Below w6.heap.size w6 w6.drew := (Below.refl _ _).drew
          have kc0 := below_cell bD c0
          have kc1 := below_cell bD c1
          have kc2 := below_cell bD c2
          have kc3 := below_cell bD c3
          replace hB := hB.trans (bD.mono hB.size)
          refine wp_region_held_drew (S := fun w' => w'.cell? ⟨b1, o1, none⟩ = some (.int .i64 x) ∧ w'.cell? ⟨b1, o1 + 1, none⟩ = some (.bool P.s) ∧ w'.cell? ⟨b1, o1 + 1 + 1, none⟩ = some (.slice P.a P.n P.c) ∧ w'.cell? ⟨b1, o1 + 1 + 2, none⟩ = some (.slice P.b P.m P.e)) (by kernel_rfl) ⟨kc0, kc1, kc2, kc3⟩ (fun hHeld => ?_)
          clear kc0 kc1 kc2 kc3
          generalize w6.drew = w7 at bD hB hHeld ⊢
          refine tk 0 (v := ?_) rfl (Or.inl ⟨by rfl, ?_⟩) ?_
          rotate_left
          · intro w9 hSw
            go_simp
            first | done | with_reducible rfl
          simp only [pP, pN, pS, pZ, pC]
          refine tk 1 (v := ?_) rfl (Or.inl ⟨by rfl, ?_⟩) ?_
          rotate_left
          · intro w9 hSw
            go_simp
            first | done | with_reducible rfl
          simp only [pP, pN, pS, pZ, pC]
          refine tk 2 (v := ?_) rfl (Or.inl ⟨by rfl, ?_⟩) ?_
          rotate_left
          · intro w9 hSw
            go_simp
            first | done | with_reducible rfl
          simp only [pP, pN, pS, pZ, pC]
          refine tk 3 (v := ?_) rfl (Or.inl ⟨by rfl, ?_⟩) ?_
          rotate_left
          · intro w9 hSw
            go_simp
            first | done | with_reducible rfl
          simp only [pP, pN, pS, pZ, pC]
          refine tk 6 (v := ?_) rfl (Or.inl ⟨by rfl, ?_⟩) ?_
          rotate_left
          · intro w9 hSw
            go_simp
            first | done | with_reducible rfl
          simp only [pP, pN, pS, pZ, pC]
          refine tk 7 (v := ?_) rfl (Or.inl ⟨by rfl, ?_⟩) ?_
          rotate_left
          · intro w9 hSw
            go_simp
            first | done | with_reducible rfl
          simp only [pP, pN, pS, pZ, pC]
          refine wpAnyH_ready (rs := [4]) (by kernel_rfl) (by simp) ?_
          refine cons' rfl (fun KK hKK => ?_)
          go_simp
          have hnew := heap_alloc_new w7 (.cells #[.int .i64 x, .bool P.s, .slice P.a P.n P.c, .slice P.b P.m P.e] 42)
          have b3 := below_alloc (w := w7) (.cells #[.int .i64 x, .bool P.s, .slice P.a P.n P.c, .slice P.b P.m P.e] 42)
          generalize hw8 : w7.alloc (.cells #[.int .i64 x, .bool P.s, .slice P.a P.n P.c, .slice P.b P.m P.e] 42) = w8 at hnew b3 ⊢
          clear hw8
          replace hB := hB.trans (b3.mono hB.size)
          replace hHeld := (⟨below_cell b3 hHeld.1, below_cell b3 hHeld.2.1, below_cell b3 hHeld.2.2.1, below_cell b3 hHeld.2.2.2⟩ : _ ∧ _ ∧ _ ∧ _)
          refine hKK.out _ _ hHeld ?_
          clear hHeld
          intro hHeld
          clear hKK KK
          try simp only [pP, pN, pS, pZ, pC]
          have bT := bD.trans (b3.mono bD.size)
          have hO3 := own_below hO bT
          have s3 := b3.size
          have s4 := bD.size
          have s5 := hB.size
          refine wpAnyH_ready (rs := [5]) (by kernel_rfl) (by simp) ?_
          refine cons' rfl (fun KK hKK => ?_)
          refine step_append_lies _ (by rfl) _ _ _ (by rfl) w.heap.size 42 i0 _ 4 64 Tryz.underlying22 hi0 hz0 hz1 hz2 rfl (by omega) u9 R.length (cellsF R) (by rfl) hO3
            ⟨w7.heap.size, 0, none⟩ 1 1 (cells4 (x, P)) (by rfl) (by rfl) (World.news_of_block (cs := #[.int .i64 x, .bool P.s, .slice P.a P.n P.c, .slice P.b P.m P.e]) (t := 42) (fr := (0, 0)) hnew) (cells4_one _)
            (by omega) (by simp only [maxLen]; omega) (by omega) (by omega) w8.heap.size rfl ?_
          intro gb cap w9 hown4 hgrow hat hlt4
          have far : ∀ {o : Nat} {u : Value}, w8.cell? ⟨b1, o, none⟩ = some u → w9.cell? ⟨b1, o, none⟩ = some u := fun hu => hgrow.cell hu (fun e => by have := hrow _ e.symm; simp only at this; omega)
          refine hKK.out _ _ ⟨far hHeld.1, far hHeld.2.1, far hHeld.2.2.1, far hHeld.2.2.2⟩ ?_
          clear hHeld
          intro hHeld
          clear hKK KK
          try simp only [pP, pN, pS, pZ, pC]
          have I1 := hide' (And.intro (own_push hown4) (And.intro (hB.trans (below_grown hB.size (fun k hk => (hrow k hk).1) hgrow)) (grw_push (fun q hq => (hR q hq).later bT) (eP.ent.grw hB (fun b e => (hrow b e).1)) (j := R.length + 1) (cap := cap) hgrow hat)))
          clear hown4 hgrow hat far
          refine tk 8 (v := ?_) rfl (Or.inl ⟨by rfl, ?_⟩) ?_
          rotate_left
          · intro w9 hSw
            go_simp
            first | done | with_reducible rfl
          simp only [pP, pN, pS, pZ, pC]
          refine tk 9 (v := ?_) rfl (Or.inl ⟨by rfl, ?_⟩) ?_
          rotate_left
          · intro w9 hSw
            go_simp
            first | done | with_reducible rfl
          simp only [pP, pN, pS, pZ, pC]
          refine wpAnyH_done (by kernel_rfl) ?_ _
          go_wp2
          go_roundw
          case rel => exact ⟨a1, ca - 1, L9, _, cb, (y, Q) :: M9, R ++ [(x, P)], rfl, by rw [hm], tL, sb, eL, by intro p hp; rcases List.mem_cons.1 hp with rfl | hp; exact eQ; exact eM p hp, I1.out.1, I1.out.2.1, I1.out.2.2, by rw [← hT, fo_cons, fo_cons, mrg_lt hxy, fo_append, List.append_assoc]; rfl, by have := HN.out.1; rw [List.length_append]; simp only [List.length_cons, List.length_nil] at hlen ⊢; omega⟩
          case measure => have := HN.out.1; simp only [slen]; omega
        · subst hxy
          have ho : ord x x = 0 := by unfold ord; rw [if_neg (by omega), if_neg (by omega)]
          rw [ho] at GB'
          clear ho
          obtain ⟨Z, hZ⟩ : ∃ Z, (P.val + Q.val).num = Z := ⟨_, rfl⟩
          obtain ⟨V, hV⟩ : ∃ V, (P.val + Q.val).den = V := ⟨_, rfl⟩
          have hL := low_add P Q
          rw [hZ, hV] at hL
          have lZ := add_sz eP eQ hL
          obtain ⟨C, hC⟩ : ∃ C, sgn Z = C := ⟨_, rfl⟩
          obtain ⟨d, hd⟩ : ∃ d : Bool, d = (!decide (C = 0)) := ⟨_, rfl⟩
          have GJ := hide' (fun w' (k1 : Seg w' P.a P.X P.n) (k2 : Seg w' P.b P.Y P.m) (k3 : Seg w' Q.a Q.X Q.n) (k4 : Seg w' Q.b Q.Y Q.m) => joined_cc x x P.s P.a P.n P.c P.X P.b P.m P.e P.Y Q.s Q.a Q.n Q.c Q.X Q.b Q.m Q.e Q.Y Z V C d w' eP.ent.ok.2.1 eP.ln1 k1 eP.ent.ok.2.2.2.2.1 eP.ln2 k2 eQ.ent.ok.2.1 eQ.ln1 k3 eQ.ent.ok.2.2.2.2.1 eQ.ln2 k4 hL hC hd lZ.1 lZ.2)
          have hd2 : d = true ∧ P.val + Q.val ≠ 0 ∨ d = false ∧ P.val + Q.val = 0 := by
            have h1 := Rat.num_eq_zero (q := P.val + Q.val)
            rw [hZ] at h1
            have h2 := sgn_zero_iff Z
            rw [hC] at h2
            rw [hd]
            by_cases h : C = 0
            · exact Or.inr ⟨by simp [h], h1.1 (h2.1 h)⟩
            · exact Or.inl ⟨by simp [h], fun e => h (h2.2 (h1.2 e))⟩
          have HZ := hide' (And.intro hZ hV)
          have HL := hide' hL
          have lZ1 := lZ.1
          have lZ2 := lZ.2
          clear hL lZ hC hd hZ hV
          have GB := hide' GB'
          clear GB'
          go_wp2_with fail
          clear hbs
          have hO9 := hO
          have hR9 := hR
          have bD : Below wr.heap.size wr wr.drew := (Below.refl _ _).drew
          have kc0 := below_cell bD c0
          have kc1 := below_cell bD c1
          have kc2 := below_cell bD c2
          have kc3 := below_cell bD c3
          have kd0 := below_cell bD d0
          have kd1 := below_cell bD d1
          have kd2 := below_cell bD d2
          have kd3 := below_cell bD d3
          replace hB := hB.trans (bD.mono hB.size)
          replace c0 := below_cell bD c0
          replace c1 := below_cell bD c1
          replace c2 := below_cell bD c2
          replace c3 := below_cell bD c3
          replace d0 := below_cell bD d0
          replace d1 := below_cell bD d1
          replace d2 := below_cell bD d2
          replace d3 := below_cell bD d3
          refine wp_region_held_drew (S := fun w' => w'.cell? ⟨b1, o1, none⟩ = some (.int .i64 x) ∧ w'.cell? ⟨b1, o1 + 1, none⟩ = some (.bool P.s) ∧ w'.cell? ⟨b1, o1 + 1 + 1, none⟩ = some (.slice P.a P.n P.c) ∧ w'.cell? ⟨b1, o1 + 1 + 2, none⟩ = some (.slice P.b P.m P.e) ∧ w'.cell? ⟨b2, o2, none⟩ = some (.int .i64 x) ∧ w'.cell? ⟨b2, o2 + 1, none⟩ = some (.bool Q.s) ∧ w'.cell? ⟨b2, o2 + 1 + 1, none⟩ = some (.slice Q.a Q.n Q.c) ∧ w'.cell? ⟨b2, o2 + 1 + 2, none⟩ = some (.slice Q.b Q.m Q.e)) (by kernel_rfl) ⟨kc0, kc1, kc2, kc3, kd0, kd1, kd2, kd3⟩ (fun hHeld => ?_)
          clear kc0 kc1 kc2 kc3 kd0 kd1 kd2 kd3
          generalize wr.drew = w0 at bD c0 c1 c2 c3 d0 d1 d2 d3 hB hHeld ⊢
          refine tk 0 (v := ?_) rfl (Or.inl ⟨by rfl, ?_⟩) ?_
          rotate_left
          · intro w9 hSw
            go_simp
            first | done | with_reducible rfl
          simp only [pP, pN, pS, pZ, pC]
          refine tk 1 (v := ?_) rfl (Or.inl ⟨by rfl, ?_⟩) ?_
          rotate_left
          · intro w9 hSw
            go_simp
            first | done | with_reducible rfl
          simp only [pP, pN, pS, pZ, pC]
          refine tk 2 (v := ?_) rfl (Or.inl ⟨by rfl, ?_⟩) ?_
          rotate_left
          · intro w9 hSw
            go_simp
            first | done | with_reducible rfl
          simp only [pP, pN, pS, pZ, pC]
          refine tk 3 (v := ?_) rfl (Or.inl ⟨by rfl, ?_⟩) ?_
          rotate_left
          · intro w9 hSw
            go_simp
            first | done | with_reducible rfl
          simp only [pP, pN, pS, pZ, pC]
          refine tk 4 (v := ?_) rfl (Or.inl ⟨by rfl, ?_⟩) ?_
          rotate_left
          · intro w9 hSw
            go_simp
            first | done | with_reducible rfl
          simp only [pP, pN, pS, pZ, pC]
          refine tk 5 (v := ?_) rfl (Or.inl ⟨by rfl, ?_⟩) ?_
          rotate_left
          · intro w9 hSw
            go_simp
            first | done | with_reducible rfl
          simp only [pP, pN, pS, pZ, pC]
          refine tk 6 (v := ?_) rfl (Or.inl ⟨by rfl, ?_⟩) ?_
          rotate_left
          · intro w9 hSw
            go_simp
            first | done | with_reducible rfl
          simp only [pP, pN, pS, pZ, pC]
          refine wpAnyH_ready (rs := [7]) (by kernel_rfl) (by simp) ?_
          refine cons' rfl (fun KK hKK => ?_)
          go_simp
          refine (GB.out _).mono ?_
          rintro e w6 ⟨rfl, b6⟩
          have bC := b6
          replace hB := hB.trans (bC.mono hB.size)
          replace c0 := below_cell bC c0
          replace c1 := below_cell bC c1
          replace c2 := below_cell bC c2
          replace c3 := below_cell bC c3
          replace d0 := below_cell bC d0
          replace d1 := below_cell bC d1
          replace d2 := below_cell bC d2
          replace d3 := below_cell bC d3
          replace hHeld := (⟨below_cell bC hHeld.1, below_cell bC hHeld.2.1, below_cell bC hHeld.2.2.1, below_cell bC hHeld.2.2.2.1, below_cell bC hHeld.2.2.2.2.1, below_cell bC hHeld.2.2.2.2.2.1, below_cell bC hHeld.2.2.2.2.2.2.1, below_cell bC hHeld.2.2.2.2.2.2.2⟩ : _ ∧ _ ∧ _ ∧ _ ∧ _ ∧ _ ∧ _ ∧ _)
          clear bC
          go_wp2_with fail
          have bT := bD.trans (b6.mono bD.size)
          refine hKK.out _ _ hHeld ?_
          clear hHeld
          intro hHeld
          clear hKK KK
          try simp only [pP, pN, pS, pZ, pC]
          refine tk 8 (v := ?_) rfl (Or.inl ⟨by rfl, ?_⟩) ?_
          rotate_left
          · intro w9 hSw
            go_simp
            first | done | with_reducible rfl
          simp only [pP, pN, pS, pZ, pC]
          refine wpAnyH_done (by kernel_rfl) ?_ _
          replace hO := own_below hO bT
          replace hR := fun p hp => (hR p hp).later bT
          replace hrow := fun k hk => (hO.lt k hk)
          have hbs := hB.size
          clear bT bD b6 hO9 hR9 hHeld GB
          go_upto_region 4 with fail
          go_cut [11, 12] from 35 to 45 (fun s11 s12 wx => ∃ wv c p q, wv = wx ∧ s11 = .pointer (some ⟨c, 0, none⟩) ∧ s12 = .bool d ∧ Four wx c (.int .i64 x) (.bool (ng Z)) (.slice p (ln (am Z)) (ln (am Z))) (.slice q (ln V) (ln V)) ∧ Below w6.heap.size w6 wx ∧ Seg wx p (am Z) (ln (am Z)) ∧ Seg wx q V (ln V) ∧ Fresh w6 p (ln (am Z)) ∧ Fresh w6 q (ln V))
          case first =>
            have k1 := eP.ent.ok.1.later hB
            have k2 := eP.ent.ok.2.2.2.1.later hB
            have k3 := eQ.ent.ok.1.later hB
            have k4 := eQ.ent.ok.2.2.2.1.later hB
            have bT : Below w6.heap.size w6 w6 := Below.refl _ _
            have bD : Below w6.heap.size w6 w6.drew := (Below.refl _ _).drew
            have kc0 := below_cell bD c0
            have kc1 := below_cell bD c1
            have kc2 := below_cell bD c2
            have kc3 := below_cell bD c3
            have kd0 := below_cell bD d0
            have kd1 := below_cell bD d1
            have kd2 := below_cell bD d2
            have kd3 := below_cell bD d3
            replace bT := bT.trans (bD.mono bT.size)
            replace k1 := k1.later bD
            replace k2 := k2.later bD
            replace k3 := k3.later bD
            replace k4 := k4.later bD
            refine wp_region_held_drew (S := fun w' => w'.cell? ⟨b1, o1, none⟩ = some (.int .i64 x) ∧ w'.cell? ⟨b1, o1 + 1, none⟩ = some (.bool P.s) ∧ w'.cell? ⟨b1, o1 + 1 + 1, none⟩ = some (.slice P.a P.n P.c) ∧ w'.cell? ⟨b1, o1 + 1 + 2, none⟩ = some (.slice P.b P.m P.e) ∧ w'.cell? ⟨b2, o2, none⟩ = some (.int .i64 x) ∧ w'.cell? ⟨b2, o2 + 1, none⟩ = some (.bool Q.s) ∧ w'.cell? ⟨b2, o2 + 1 + 1, none⟩ = some (.slice Q.a Q.n Q.c) ∧ w'.cell? ⟨b2, o2 + 1 + 2, none⟩ = some (.slice Q.b Q.m Q.e)) (by kernel_rfl) ⟨kc0, kc1, kc2, kc3, kd0, kd1, kd2, kd3⟩ (fun hHeld => ?_)
            clear kc0 kc1 kc2 kc3 kd0 kd1 kd2 kd3
            generalize w6.drew = w0 at bD k1 k2 k3 k4 bT hHeld ⊢
            have hw6 : b1 < w6.heap.size := by omega
            have hw7 : b2 < w6.heap.size := by omega
            clear bD
            refine tk 0 (v := ?_) rfl (Or.inl ⟨by rfl, ?_⟩) ?_
            rotate_left
            · intro w9 hSw
              go_simp
              first | done | with_reducible rfl
            simp only [pP, pN, pS, pZ, pC]
            refine tk 1 (v := ?_) rfl (Or.inl ⟨by rfl, ?_⟩) ?_
            rotate_left
            · intro w9 hSw
              go_simp
              first | done | with_reducible rfl
            simp only [pP, pN, pS, pZ, pC]
            refine tk 2 (v := ?_) rfl (Or.inl ⟨by rfl, ?_⟩) ?_
            rotate_left
            · intro w9 hSw
              go_simp
              first | done | with_reducible rfl
            simp only [pP, pN, pS, pZ, pC]
            refine tk 3 (v := ?_) rfl (Or.inl ⟨by rfl, ?_⟩) ?_
            rotate_left
            · intro w9 hSw
              go_simp
              first | done | with_reducible rfl
            simp only [pP, pN, pS, pZ, pC]
            refine tk 4 (v := ?_) rfl (Or.inl ⟨by rfl, ?_⟩) ?_
            rotate_left
            · intro w9 hSw
              go_simp
              first | done | with_reducible rfl
            simp only [pP, pN, pS, pZ, pC]
            refine tk 5 (v := ?_) rfl (Or.inl ⟨by rfl, ?_⟩) ?_
            rotate_left
            · intro w9 hSw
              go_simp
              first | done | with_reducible rfl
            simp only [pP, pN, pS, pZ, pC]
            refine tk 6 (v := ?_) rfl (Or.inl ⟨by rfl, ?_⟩) ?_
            rotate_left
            · intro w9 hSw
              go_simp
              first | done | with_reducible rfl
            simp only [pP, pN, pS, pZ, pC]
            refine wpAnyH_ready (rs := [7, 11]) (by kernel_rfl) (by simp) ?_
            refine consT rfl (fun KK hKK => ?_) ?_
            · skip
              have hsA := bT.size
              go_simp
              refine (GJ.out _ k1 k2 k3 k4).mono ?_
              rintro e w2 ⟨p, q, rfl, bC, g1, g2, f1, f2⟩
              replace f1 := f1.mono hsA
              replace f2 := f2.mono hsA
              clear hsA
              replace bT := bT.trans (bC.mono bT.size)
              replace k1 := k1.later bC
              replace k2 := k2.later bC
              replace k3 := k3.later bC
              replace k4 := k4.later bC
              replace hHeld := (⟨below_cell bC hHeld.1, below_cell bC hHeld.2.1, below_cell bC hHeld.2.2.1, below_cell bC hHeld.2.2.2.1, below_cell bC hHeld.2.2.2.2.1, below_cell bC hHeld.2.2.2.2.2.1, below_cell bC hHeld.2.2.2.2.2.2.1, below_cell bC hHeld.2.2.2.2.2.2.2⟩ : _ ∧ _ ∧ _ ∧ _ ∧ _ ∧ _ ∧ _ ∧ _)
              go_wp2_with fail
              refine hKK.out _ _ hHeld ?_
              clear hHeld
              intro hHeld
              clear hKK KK
              try simp only [pP, pN, pS, pZ, pC]
              clear bC
              refine tk 8 (v := ?_) rfl (Or.inl ⟨by rfl, ?_⟩) ?_
              rotate_left
              · intro w9 hSw
                go_simp
                first | done | with_reducible rfl
              simp only [pP, pN, pS, pZ, pC]
              refine tk 9 (v := ?_) rfl (Or.inl ⟨by rfl, ?_⟩) ?_
              rotate_left
              · intro w9 hSw
                go_simp
                first | done | with_reducible rfl
              simp only [pP, pN, pS, pZ, pC]
              refine tk 10 (v := ?_) rfl (Or.inl ⟨by rfl, ?_⟩) ?_
              rotate_left
              · intro w9 hSw
                go_simp
                first | done | with_reducible rfl
              simp only [pP, pN, pS, pZ, pC]
              refine wpAnyH_ready (rs := [11]) (by kernel_rfl) (by simp) ?_
              refine cons' rfl (fun KK hKK => ?_)
              go_simp
              have vN := four_new w2 (.int .i64 0) (.bool false) (.slice none 0 0) (.slice none 0 0) 42
              have bA := below_alloc (w := w2) (.cells #[.int .i64 0, .bool false, .slice none 0 0, .slice none 0 0] 42)
              have hc9 : w6.heap.size ≤ w2.heap.size := bT.size
              generalize w2.alloc (.cells #[.int .i64 0, .bool false, .slice none 0 0, .slice none 0 0] 42) = w3 at vN bA ⊢
              replace bT := bT.trans (bA.mono bT.size)
              replace k1 := k1.later bA
              replace k2 := k2.later bA
              replace k3 := k3.later bA
              replace k4 := k4.later bA
              replace g1 := g1.later bA
              replace g2 := g2.later bA
              replace hHeld := (⟨below_cell bA hHeld.1, below_cell bA hHeld.2.1, below_cell bA hHeld.2.2.1, below_cell bA hHeld.2.2.2.1, below_cell bA hHeld.2.2.2.2.1, below_cell bA hHeld.2.2.2.2.2.1, below_cell bA hHeld.2.2.2.2.2.2.1, below_cell bA hHeld.2.2.2.2.2.2.2⟩ : _ ∧ _ ∧ _ ∧ _ ∧ _ ∧ _ ∧ _ ∧ _)
              clear bA
              refine hKK.out _ _ hHeld ?_
              clear hHeld
              intro hHeld
              clear hKK KK
              try simp only [pP, pN, pS, pZ, pC]
              obtain ⟨cc, hcc⟩ : ∃ cc, w2.heap.size = cc := ⟨_, rfl⟩
              rw [hcc] at vN hc9
              try rw [hcc]
              clear hcc
              refine wpAnyH_ready (rs := [12]) (by kernel_rfl) (by simp) ?_
              refine cons' rfl (fun KK hKK => ?_)
              have fz := fun o => vN.2.frozen o
              replace g1 := vN.seg (u0 := .int .i64 x) (u1 := .bool (ng Z)) (u2 := .slice p (ln (am Z)) (ln (am Z))) (u3 := .slice q (ln V) (ln V)) (by simp) (by simp) (by simp) (by simp) g1
              replace g2 := vN.seg (u0 := .int .i64 x) (u1 := .bool (ng Z)) (u2 := .slice p (ln (am Z)) (ln (am Z))) (u3 := .slice q (ln V) (ln V)) (by simp) (by simp) (by simp) (by simp) g2
              replace bT := below_set4 (u0 := .int .i64 x) (u1 := .bool (ng Z)) (u2 := .slice p (ln (am Z)) (ln (am Z))) (u3 := .slice q (ln V) (ln V)) bT hc9
              have hH2 := (⟨(set4_far (w := w3) (c := cc) (b := b1) (o := o1) (u0 := .int .i64 x) (u1 := .bool (ng Z)) (u2 := .slice p (ln (am Z)) (ln (am Z))) (u3 := .slice q (ln V) (ln V)) (by omega)).trans hHeld.1, (set4_far (w := w3) (c := cc) (b := b1) (o := o1 + 1) (u0 := .int .i64 x) (u1 := .bool (ng Z)) (u2 := .slice p (ln (am Z)) (ln (am Z))) (u3 := .slice q (ln V) (ln V)) (by omega)).trans hHeld.2.1, (set4_far (w := w3) (c := cc) (b := b1) (o := o1 + 1 + 1) (u0 := .int .i64 x) (u1 := .bool (ng Z)) (u2 := .slice p (ln (am Z)) (ln (am Z))) (u3 := .slice q (ln V) (ln V)) (by omega)).trans hHeld.2.2.1, (set4_far (w := w3) (c := cc) (b := b1) (o := o1 + 1 + 2) (u0 := .int .i64 x) (u1 := .bool (ng Z)) (u2 := .slice p (ln (am Z)) (ln (am Z))) (u3 := .slice q (ln V) (ln V)) (by omega)).trans hHeld.2.2.2.1, (set4_far (w := w3) (c := cc) (b := b2) (o := o2) (u0 := .int .i64 x) (u1 := .bool (ng Z)) (u2 := .slice p (ln (am Z)) (ln (am Z))) (u3 := .slice q (ln V) (ln V)) (by omega)).trans hHeld.2.2.2.2.1, (set4_far (w := w3) (c := cc) (b := b2) (o := o2 + 1) (u0 := .int .i64 x) (u1 := .bool (ng Z)) (u2 := .slice p (ln (am Z)) (ln (am Z))) (u3 := .slice q (ln V) (ln V)) (by omega)).trans hHeld.2.2.2.2.2.1, (set4_far (w := w3) (c := cc) (b := b2) (o := o2 + 1 + 1) (u0 := .int .i64 x) (u1 := .bool (ng Z)) (u2 := .slice p (ln (am Z)) (ln (am Z))) (u3 := .slice q (ln V) (ln V)) (by omega)).trans hHeld.2.2.2.2.2.2.1, (set4_far (w := w3) (c := cc) (b := b2) (o := o2 + 1 + 2) (u0 := .int .i64 x) (u1 := .bool (ng Z)) (u2 := .slice p (ln (am Z)) (ln (am Z))) (u3 := .slice q (ln V) (ln V)) (by omega)).trans hHeld.2.2.2.2.2.2.2⟩ : _ ∧ _ ∧ _ ∧ _ ∧ _ ∧ _ ∧ _ ∧ _)
              have vN2 := vN.put (u0 := .int .i64 x) (u1 := .bool (ng Z)) (u2 := .slice p (ln (am Z)) (ln (am Z))) (u3 := .slice q (ln V) (ln V))
              have z0 := vN.1.1
              have z1 := vN.1.2.1
              have z2 := vN.1.2.2.1
              have z3 := vN.1.2.2.2
              go_simp
              clear z0 z1 z2 z3 vN fz
              refine hKK.out _ _ hH2 ?_
              clear hHeld
              intro hHeld
              clear hKK KK
              try simp only [pP, pN, pS, pZ, pC]
              clear hH2
              refine tk 13 (v := ?_) rfl (Or.inl ⟨by rfl, ?_⟩) ?_
              rotate_left
              · intro w9 hSw
                go_simp
                first | done | with_reducible rfl
              simp only [pP, pN, pS, pZ, pC]
              refine wpAnyH_done (by kernel_rfl) ?_ _
              go_wp2_with fail
              go_meet
              exact ⟨_, cc, p, q, rfl, rfl, rfl, vN2, bT, g1, g2, f1, f2⟩
            refine consT rfl (fun KK hKK => ?_) ?_
            · skip
              go_simp
              have vN := four_new w0 (.int .i64 0) (.bool false) (.slice none 0 0) (.slice none 0 0) 42
              have bA := below_alloc (w := w0) (.cells #[.int .i64 0, .bool false, .slice none 0 0, .slice none 0 0] 42)
              have hc9 : w6.heap.size ≤ w0.heap.size := bT.size
              generalize w0.alloc (.cells #[.int .i64 0, .bool false, .slice none 0 0, .slice none 0 0] 42) = w3 at vN bA ⊢
              replace bT := bT.trans (bA.mono bT.size)
              replace k1 := k1.later bA
              replace k2 := k2.later bA
              replace k3 := k3.later bA
              replace k4 := k4.later bA
              replace hHeld := (⟨below_cell bA hHeld.1, below_cell bA hHeld.2.1, below_cell bA hHeld.2.2.1, below_cell bA hHeld.2.2.2.1, below_cell bA hHeld.2.2.2.2.1, below_cell bA hHeld.2.2.2.2.2.1, below_cell bA hHeld.2.2.2.2.2.2.1, below_cell bA hHeld.2.2.2.2.2.2.2⟩ : _ ∧ _ ∧ _ ∧ _ ∧ _ ∧ _ ∧ _ ∧ _)
              clear bA
              refine hKK.out _ _ hHeld ?_
              clear hHeld
              intro hHeld
              clear hKK KK
              try simp only [pP, pN, pS, pZ, pC]
              obtain ⟨cc, hcc⟩ : ∃ cc, w0.heap.size = cc := ⟨_, rfl⟩
              rw [hcc] at vN hc9
              try rw [hcc]
              clear hcc
              refine wpAnyH_ready (rs := [7]) (by kernel_rfl) (by simp) ?_
              refine cons' rfl (fun KK hKK => ?_)
              have hsA := bT.size
              go_simp
              refine (GJ.out _ k1 k2 k3 k4).mono ?_
              rintro e w2 ⟨p, q, rfl, bC, g1, g2, f1, f2⟩
              replace f1 := f1.mono hsA
              replace f2 := f2.mono hsA
              clear hsA
              replace bT := bT.trans (bC.mono bT.size)
              replace k1 := k1.later bC
              replace k2 := k2.later bC
              replace k3 := k3.later bC
              replace k4 := k4.later bC
              replace vN := vN.later bC
              replace hHeld := (⟨below_cell bC hHeld.1, below_cell bC hHeld.2.1, below_cell bC hHeld.2.2.1, below_cell bC hHeld.2.2.2.1, below_cell bC hHeld.2.2.2.2.1, below_cell bC hHeld.2.2.2.2.2.1, below_cell bC hHeld.2.2.2.2.2.2.1, below_cell bC hHeld.2.2.2.2.2.2.2⟩ : _ ∧ _ ∧ _ ∧ _ ∧ _ ∧ _ ∧ _ ∧ _)
              go_wp2_with fail
              refine hKK.out _ _ hHeld ?_
              clear hHeld
              intro hHeld
              clear hKK KK
              try simp only [pP, pN, pS, pZ, pC]
              clear bC
              refine tk 8 (v := ?_) rfl (Or.inl ⟨by rfl, ?_⟩) ?_
              rotate_left
              · intro w9 hSw
                go_simp
                first | done | with_reducible rfl
              simp only [pP, pN, pS, pZ, pC]
              refine tk 9 (v := ?_) rfl (Or.inl ⟨by rfl, ?_⟩) ?_
              rotate_left
              · intro w9 hSw
                go_simp
                first | done | with_reducible rfl
              simp only [pP, pN, pS, pZ, pC]
              refine tk 10 (v := ?_) rfl (Or.inl ⟨by rfl, ?_⟩) ?_
              rotate_left
              · intro w9 hSw
                go_simp
                first | done | with_reducible rfl
              simp only [pP, pN, pS, pZ, pC]
              refine wpAnyH_ready (rs := [12]) (by kernel_rfl) (by simp) ?_
              refine cons' rfl (fun KK hKK => ?_)
              have fz := fun o => vN.2.frozen o
              replace g1 := vN.seg (u0 := .int .i64 x) (u1 := .bool (ng Z)) (u2 := .slice p (ln (am Z)) (ln (am Z))) (u3 := .slice q (ln V) (ln V)) (by simp) (by simp) (by simp) (by simp) g1
              replace g2 := vN.seg (u0 := .int .i64 x) (u1 := .bool (ng Z)) (u2 := .slice p (ln (am Z)) (ln (am Z))) (u3 := .slice q (ln V) (ln V)) (by simp) (by simp) (by simp) (by simp) g2
              replace bT := below_set4 (u0 := .int .i64 x) (u1 := .bool (ng Z)) (u2 := .slice p (ln (am Z)) (ln (am Z))) (u3 := .slice q (ln V) (ln V)) bT hc9
              have hH2 := (⟨(set4_far (w := w2) (c := cc) (b := b1) (o := o1) (u0 := .int .i64 x) (u1 := .bool (ng Z)) (u2 := .slice p (ln (am Z)) (ln (am Z))) (u3 := .slice q (ln V) (ln V)) (by omega)).trans hHeld.1, (set4_far (w := w2) (c := cc) (b := b1) (o := o1 + 1) (u0 := .int .i64 x) (u1 := .bool (ng Z)) (u2 := .slice p (ln (am Z)) (ln (am Z))) (u3 := .slice q (ln V) (ln V)) (by omega)).trans hHeld.2.1, (set4_far (w := w2) (c := cc) (b := b1) (o := o1 + 1 + 1) (u0 := .int .i64 x) (u1 := .bool (ng Z)) (u2 := .slice p (ln (am Z)) (ln (am Z))) (u3 := .slice q (ln V) (ln V)) (by omega)).trans hHeld.2.2.1, (set4_far (w := w2) (c := cc) (b := b1) (o := o1 + 1 + 2) (u0 := .int .i64 x) (u1 := .bool (ng Z)) (u2 := .slice p (ln (am Z)) (ln (am Z))) (u3 := .slice q (ln V) (ln V)) (by omega)).trans hHeld.2.2.2.1, (set4_far (w := w2) (c := cc) (b := b2) (o := o2) (u0 := .int .i64 x) (u1 := .bool (ng Z)) (u2 := .slice p (ln (am Z)) (ln (am Z))) (u3 := .slice q (ln V) (ln V)) (by omega)).trans hHeld.2.2.2.2.1, (set4_far (w := w2) (c := cc) (b := b2) (o := o2 + 1) (u0 := .int .i64 x) (u1 := .bool (ng Z)) (u2 := .slice p (ln (am Z)) (ln (am Z))) (u3 := .slice q (ln V) (ln V)) (by omega)).trans hHeld.2.2.2.2.2.1, (set4_far (w := w2) (c := cc) (b := b2) (o := o2 + 1 + 1) (u0 := .int .i64 x) (u1 := .bool (ng Z)) (u2 := .slice p (ln (am Z)) (ln (am Z))) (u3 := .slice q (ln V) (ln V)) (by omega)).trans hHeld.2.2.2.2.2.2.1, (set4_far (w := w2) (c := cc) (b := b2) (o := o2 + 1 + 2) (u0 := .int .i64 x) (u1 := .bool (ng Z)) (u2 := .slice p (ln (am Z)) (ln (am Z))) (u3 := .slice q (ln V) (ln V)) (by omega)).trans hHeld.2.2.2.2.2.2.2⟩ : _ ∧ _ ∧ _ ∧ _ ∧ _ ∧ _ ∧ _ ∧ _)
              have vN2 := vN.put (u0 := .int .i64 x) (u1 := .bool (ng Z)) (u2 := .slice p (ln (am Z)) (ln (am Z))) (u3 := .slice q (ln V) (ln V))
              have z0 := vN.1.1
              have z1 := vN.1.2.1
              have z2 := vN.1.2.2.1
              have z3 := vN.1.2.2.2
              go_simp
              clear z0 z1 z2 z3 vN fz
              refine hKK.out _ _ hH2 ?_
              clear hHeld
              intro hHeld
              clear hKK KK
              try simp only [pP, pN, pS, pZ, pC]
              clear hH2
              refine tk 13 (v := ?_) rfl (Or.inl ⟨by rfl, ?_⟩) ?_
              rotate_left
              · intro w9 hSw
                go_simp
                first | done | with_reducible rfl
              simp only [pP, pN, pS, pZ, pC]
              refine wpAnyH_done (by kernel_rfl) ?_ _
              go_wp2_with fail
              go_meet
              exact ⟨_, cc, p, q, rfl, rfl, rfl, vN2, bT, g1, g2, f1, f2⟩
            exact AllReadyH.nil
          case rest =>
            clear GJ c0 c1 c2 c3 d0 d1 d2 d3 hbs
            obtain ⟨wv, c, p, q, hwv, rfl, rfl, ⟨⟨v0, v1, v2, v3⟩, vR⟩, bT, g1, g2, f1, f2⟩ := hcut
            subst hwv
            replace hO := own_below hO bT
            replace hR := fun p hp => (hR p hp).later bT
            have hB6 := hB.size
            replace hB := hB.trans (bT.mono hB.size)
            have hsz6 := bT.size
            have hrow6 := hrow
            have hbs := hB.size
            replace hrow := fun k hk => (hO.lt k hk)
            have gN : Grw u9 wv (x, RatV.of Z V p q) := ⟨⟨g1, Nat.le_refl _, lZ1, g2, Nat.le_refl _, lZ2⟩, RatV.of_low HL.out.pos HL.out.cop, fun b e => ⟨fun hn ad e2 h => by have h1 := f1 hn ad e2; have h2 := (hrow6 b e).2; omega, fun hn ad e2 h => by have h1 := f2 hn ad e2; have h2 := (hrow6 b e).2; omega⟩⟩
            have vN : (RatV.of Z V p q).val = P.val + Q.val := by rw [← HZ.out.1, ← HZ.out.2]; exact val_ofR _ _ _
            clear g1 g2 f1 f2 hrow6 vR
            rcases hd2 with ⟨rfl, hne⟩ | ⟨rfl, he⟩
            · have hbl : (R.length + 1) * 64 ≤ 140737488355328 := by omega
              have hwl : ∀ W : World, True := fun _ => trivial
              obtain ⟨wB, hwB⟩ : ∃ wB, wv.alloc (.cells #[.int .i64 x, .bool (ng Z), .slice p (ln (am Z)) (ln (am Z)), .slice q (ln V) (ln V)] 42) = wB := ⟨_, rfl⟩
              have hnew := heap_alloc_new wv (.cells #[.int .i64 x, .bool (ng Z), .slice p (ln (am Z)) (ln (am Z)), .slice q (ln V) (ln V)] 42)
              have b3 := below_alloc (w := wv) (.cells #[.int .i64 x, .bool (ng Z), .slice p (ln (am Z)) (ln (am Z)), .slice q (ln V) (ln V)] 42)
              rw [hwB] at hnew b3
              have hO3 := own_below hO b3
              have s3 := b3.size
              have hbB : w.heap.size ≤ wB.heap.size := by omega
              go_wp2_with (at_builtin; (try rw [hwB]); refine wpList_append_lies _ (by rfl) _ _ _ (by rfl) w.heap.size 42 i0 _ 4 64 Tryz.underlying22 hi0 hz0 hz1 hz2 rfl (by omega) u9 R.length (cellsF R) (by rfl) hO3 ⟨wv.heap.size, 0, none⟩ 1 1 (cells4 (x, RatV.of Z V p q)) (by rfl) (by rfl) (World.news_of_block (cs := #[.int .i64 x, .bool (ng Z), .slice p (ln (am Z)) (ln (am Z)), .slice q (ln V) (ln V)]) (t := 42) (fr := (0, 0)) hnew) (cells4_one _) (by omega) (by simp only [maxLen]; omega) hbl hbB wB.heap.size rfl ?_)
              intro gb cap w9 hown4 hgrow hat hlt4
              have hB3 := hB.trans (b3.mono hB.size)
              have I1 := hide' (And.intro (own_push hown4) (And.intro (hB3.trans (below_grown hB3.size (fun k hk => (hrow k hk).1) hgrow)) (grw_push (fun q hq => (hR q hq).later b3) (gN.later b3) (j := R.length + 1) (cap := cap) hgrow hat)))
              clear hown4 hgrow hat hwB hnew b3 hO3 hB3
              go_wp2_with fail
              have bD : Below w9.heap.size w9 w9.drew := (Below.refl _ _).drew
              refine wp_region_held_drew (S := fun w' => True) (by kernel_rfl) trivial (fun hHeld => ?_)
              generalize w9.drew = w0 at bD  hHeld ⊢
              refine tk 0 (v := ?_) rfl (Or.inl ⟨by rfl, ?_⟩) ?_
              rotate_left
              · intro w9 hSw
                go_simp
                first | done | with_reducible rfl
              simp only [pP, pN, pS, pZ, pC]
              refine tk 1 (v := ?_) rfl (Or.inl ⟨by rfl, ?_⟩) ?_
              rotate_left
              · intro w9 hSw
                go_simp
                first | done | with_reducible rfl
              simp only [pP, pN, pS, pZ, pC]
              refine tk 2 (v := ?_) rfl (Or.inl ⟨by rfl, ?_⟩) ?_
              rotate_left
              · intro w9 hSw
                go_simp
                first | done | with_reducible rfl
              simp only [pP, pN, pS, pZ, pC]
              refine tk 3 (v := ?_) rfl (Or.inl ⟨by rfl, ?_⟩) ?_
              rotate_left
              · intro w9 hSw
                go_simp
                first | done | with_reducible rfl
              simp only [pP, pN, pS, pZ, pC]
              refine tk 4 (v := ?_) rfl (Or.inl ⟨by rfl, ?_⟩) ?_
              rotate_left
              · intro w9 hSw
                go_simp
                first | done | with_reducible rfl
              simp only [pP, pN, pS, pZ, pC]
              refine tk 5 (v := ?_) rfl (Or.inl ⟨by rfl, ?_⟩) ?_
              rotate_left
              · intro w9 hSw
                go_simp
                first | done | with_reducible rfl
              simp only [pP, pN, pS, pZ, pC]
              refine wpAnyH_done (by kernel_rfl) ?_ _
              go_wp2
              go_roundw
              case rel => exact ⟨a1, ca - 1, L9, a2, cb - 1, M9, R ++ [(x, RatV.of Z V p q)], rfl, rfl, tL, tM, eL, eM, own_below I1.out.1 bD, I1.out.2.1.trans (bD.mono I1.out.2.1.size), (fun p hp => (I1.out.2.2 p hp).later bD), by rw [← hT, fo_cons, fo_cons, mrg_eq rfl, if_neg hne, fo_append, List.append_assoc, ← vN]; rfl, by have := HN.out; simp only [List.length_append, List.length_cons, List.length_nil] at hlen ⊢; omega⟩
              case measure => have := HN.out; simp only [slen]; omega
            · go_wp2_with fail
              have bD : Below wv.heap.size wv wv.drew := (Below.refl _ _).drew
              refine wp_region_held_drew (S := fun w' => True) (by kernel_rfl) trivial (fun hHeld => ?_)
              generalize wv.drew = w0 at bD  hHeld ⊢
              refine tk 0 (v := ?_) rfl (Or.inl ⟨by rfl, ?_⟩) ?_
              rotate_left
              · intro w9 hSw
                go_simp
                first | done | with_reducible rfl
              simp only [pP, pN, pS, pZ, pC]
              refine tk 1 (v := ?_) rfl (Or.inl ⟨by rfl, ?_⟩) ?_
              rotate_left
              · intro w9 hSw
                go_simp
                first | done | with_reducible rfl
              simp only [pP, pN, pS, pZ, pC]
              refine tk 2 (v := ?_) rfl (Or.inl ⟨by rfl, ?_⟩) ?_
              rotate_left
              · intro w9 hSw
                go_simp
                first | done | with_reducible rfl
              simp only [pP, pN, pS, pZ, pC]
              refine tk 3 (v := ?_) rfl (Or.inl ⟨by rfl, ?_⟩) ?_
              rotate_left
              · intro w9 hSw
                go_simp
                first | done | with_reducible rfl
              simp only [pP, pN, pS, pZ, pC]
              refine tk 4 (v := ?_) rfl (Or.inl ⟨by rfl, ?_⟩) ?_
              rotate_left
              · intro w9 hSw
                go_simp
                first | done | with_reducible rfl
              simp only [pP, pN, pS, pZ, pC]
              refine tk 5 (v := ?_) rfl (Or.inl ⟨by rfl, ?_⟩) ?_
              rotate_left
              · intro w9 hSw
                go_simp
                first | done | with_reducible rfl
              simp only [pP, pN, pS, pZ, pC]
              refine wpAnyH_done (by kernel_rfl) ?_ _
              go_wp2
              go_roundw
              case rel => exact ⟨a1, ca - 1, L9, a2, cb - 1, M9, R, rfl, rfl, tL, tM, eL, eM, own_below hO bD, hB.trans (bD.mono hB.size), (fun p hp => (hR p hp).later bD), by rw [← hT, fo_cons, fo_cons, mrg_eq rfl, if_pos he], by have := HN.out; simp only [List.length_append, List.length_cons, List.length_nil] at hlen ⊢; omega⟩
              case measure => have := HN.out; simp only [slen]; omega
        · have ho : ord x y = 1 := by unfold ord; rw [if_neg (by omega), if_pos hxy]
          rw [ho] at GB'
          clear ho
          have GB := hide' GB'
          clear GB'
          go_wp2_with fail
          clear hbs
          have hO9 := hO
          have hR9 := hR
          have bD : Below wr.heap.size wr wr.drew := (Below.refl _ _).drew
          have kc0 := below_cell bD c0
          have kc1 := below_cell bD c1
          have kc2 := below_cell bD c2
          have kc3 := below_cell bD c3
          have kd0 := below_cell bD d0
          have kd1 := below_cell bD d1
          have kd2 := below_cell bD d2
          have kd3 := below_cell bD d3
          replace hB := hB.trans (bD.mono hB.size)
          replace c0 := below_cell bD c0
          replace c1 := below_cell bD c1
          replace c2 := below_cell bD c2
          replace c3 := below_cell bD c3
          replace d0 := below_cell bD d0
          replace d1 := below_cell bD d1
          replace d2 := below_cell bD d2
          replace d3 := below_cell bD d3
          refine wp_region_held_drew (S := fun w' => w'.cell? ⟨b1, o1, none⟩ = some (.int .i64 x) ∧ w'.cell? ⟨b1, o1 + 1, none⟩ = some (.bool P.s) ∧ w'.cell? ⟨b1, o1 + 1 + 1, none⟩ = some (.slice P.a P.n P.c) ∧ w'.cell? ⟨b1, o1 + 1 + 2, none⟩ = some (.slice P.b P.m P.e) ∧ w'.cell? ⟨b2, o2, none⟩ = some (.int .i64 y) ∧ w'.cell? ⟨b2, o2 + 1, none⟩ = some (.bool Q.s) ∧ w'.cell? ⟨b2, o2 + 1 + 1, none⟩ = some (.slice Q.a Q.n Q.c) ∧ w'.cell? ⟨b2, o2 + 1 + 2, none⟩ = some (.slice Q.b Q.m Q.e)) (by kernel_rfl) ⟨kc0, kc1, kc2, kc3, kd0, kd1, kd2, kd3⟩ (fun hHeld => ?_)
          clear kc0 kc1 kc2 kc3 kd0 kd1 kd2 kd3
          generalize wr.drew = w0 at bD c0 c1 c2 c3 d0 d1 d2 d3 hB hHeld ⊢
          refine tk 0 (v := ?_) rfl (Or.inl ⟨by rfl, ?_⟩) ?_
          rotate_left
          · intro w9 hSw
            go_simp
            first | done | with_reducible rfl
          simp only [pP, pN, pS, pZ, pC]
          refine tk 1 (v := ?_) rfl (Or.inl ⟨by rfl, ?_⟩) ?_
          rotate_left
          · intro w9 hSw
            go_simp
            first | done | with_reducible rfl
          simp only [pP, pN, pS, pZ, pC]
          refine tk 2 (v := ?_) rfl (Or.inl ⟨by rfl, ?_⟩) ?_
          rotate_left
          · intro w9 hSw
            go_simp
            first | done | with_reducible rfl
          simp only [pP, pN, pS, pZ, pC]
          refine tk 3 (v := ?_) rfl (Or.inl ⟨by rfl, ?_⟩) ?_
          rotate_left
          · intro w9 hSw
            go_simp
            first | done | with_reducible rfl
          simp only [pP, pN, pS, pZ, pC]
          refine tk 4 (v := ?_) rfl (Or.inl ⟨by rfl, ?_⟩) ?_
          rotate_left
          · intro w9 hSw
            go_simp
            first | done | with_reducible rfl
          simp only [pP, pN, pS, pZ, pC]
          refine tk 5 (v := ?_) rfl (Or.inl ⟨by rfl, ?_⟩) ?_
          rotate_left
          · intro w9 hSw
            go_simp
            first | done | with_reducible rfl
          simp only [pP, pN, pS, pZ, pC]
          refine tk 6 (v := ?_) rfl (Or.inl ⟨by rfl, ?_⟩) ?_
          rotate_left
          · intro w9 hSw
            go_simp
            first | done | with_reducible rfl
          simp only [pP, pN, pS, pZ, pC]
          refine wpAnyH_ready (rs := [7]) (by kernel_rfl) (by simp) ?_
          refine cons' rfl (fun KK hKK => ?_)
          go_simp
          refine (GB.out _).mono ?_
          rintro e w6 ⟨rfl, b6⟩
          have bC := b6
          replace hB := hB.trans (bC.mono hB.size)
          replace c0 := below_cell bC c0
          replace c1 := below_cell bC c1
          replace c2 := below_cell bC c2
          replace c3 := below_cell bC c3
          replace d0 := below_cell bC d0
          replace d1 := below_cell bC d1
          replace d2 := below_cell bC d2
          replace d3 := below_cell bC d3
          replace hHeld := (⟨below_cell bC hHeld.1, below_cell bC hHeld.2.1, below_cell bC hHeld.2.2.1, below_cell bC hHeld.2.2.2.1, below_cell bC hHeld.2.2.2.2.1, below_cell bC hHeld.2.2.2.2.2.1, below_cell bC hHeld.2.2.2.2.2.2.1, below_cell bC hHeld.2.2.2.2.2.2.2⟩ : _ ∧ _ ∧ _ ∧ _ ∧ _ ∧ _ ∧ _ ∧ _)
          clear bC
          go_wp2_with fail
          have bT := bD.trans (b6.mono bD.size)
          refine hKK.out _ _ hHeld ?_
          clear hHeld
          intro hHeld
          clear hKK KK
          try simp only [pP, pN, pS, pZ, pC]
          refine tk 8 (v := ?_) rfl (Or.inl ⟨by rfl, ?_⟩) ?_
          rotate_left
          · intro w9 hSw
            go_simp
            first | done | with_reducible rfl
          simp only [pP, pN, pS, pZ, pC]
          refine wpAnyH_done (by kernel_rfl) ?_ _
          replace hO := own_below hO bT
          replace hR := fun p hp => (hR p hp).later bT
          replace hrow := fun k hk => (hO.lt k hk)
          have hbs := hB.size
          clear bT bD b6 hO9 hR9 hHeld GB
          go_wp2_with fail
          have bD : Below w6.heap.size w6 w6.drew := (Below.refl _ _).drew
          have kd0 := below_cell bD d0
          have kd1 := below_cell bD d1
          have kd2 := below_cell bD d2
          have kd3 := below_cell bD d3
          replace hB := hB.trans (bD.mono hB.size)
          refine wp_region_held_drew (S := fun w' => w'.cell? ⟨b2, o2, none⟩ = some (.int .i64 y) ∧ w'.cell? ⟨b2, o2 + 1, none⟩ = some (.bool Q.s) ∧ w'.cell? ⟨b2, o2 + 1 + 1, none⟩ = some (.slice Q.a Q.n Q.c) ∧ w'.cell? ⟨b2, o2 + 1 + 2, none⟩ = some (.slice Q.b Q.m Q.e)) (by kernel_rfl) ⟨kd0, kd1, kd2, kd3⟩ (fun hHeld => ?_)
          clear kd0 kd1 kd2 kd3
          generalize w6.drew = w7 at bD hB hHeld ⊢
          refine tk 0 (v := ?_) rfl (Or.inl ⟨by rfl, ?_⟩) ?_
          rotate_left
          · intro w9 hSw
            go_simp
            first | done | with_reducible rfl
          simp only [pP, pN, pS, pZ, pC]
          refine tk 1 (v := ?_) rfl (Or.inl ⟨by rfl, ?_⟩) ?_
          rotate_left
          · intro w9 hSw
            go_simp
            first | done | with_reducible rfl
          simp only [pP, pN, pS, pZ, pC]
          refine tk 2 (v := ?_) rfl (Or.inl ⟨by rfl, ?_⟩) ?_
          rotate_left
          · intro w9 hSw
            go_simp
            first | done | with_reducible rfl
          simp only [pP, pN, pS, pZ, pC]
          refine tk 3 (v := ?_) rfl (Or.inl ⟨by rfl, ?_⟩) ?_
          rotate_left
          · intro w9 hSw
            go_simp
            first | done | with_reducible rfl
          simp only [pP, pN, pS, pZ, pC]
          refine tk 6 (v := ?_) rfl (Or.inl ⟨by rfl, ?_⟩) ?_
          rotate_left
          · intro w9 hSw
            go_simp
            first | done | with_reducible rfl
          simp only [pP, pN, pS, pZ, pC]
          refine tk 7 (v := ?_) rfl (Or.inl ⟨by rfl, ?_⟩) ?_
          rotate_left
          · intro w9 hSw
            go_simp
            first | done | with_reducible rfl
          simp only [pP, pN, pS, pZ, pC]
          refine wpAnyH_ready (rs := [4]) (by kernel_rfl) (by simp) ?_
          refine cons' rfl (fun KK hKK => ?_)
          go_simp
          have hnew := heap_alloc_new w7 (.cells #[.int .i64 y, .bool Q.s, .slice Q.a Q.n Q.c, .slice Q.b Q.m Q.e] 42)
          have b3 := below_alloc (w := w7) (.cells #[.int .i64 y, .bool Q.s, .slice Q.a Q.n Q.c, .slice Q.b Q.m Q.e] 42)
          generalize hw8 : w7.alloc (.cells #[.int .i64 y, .bool Q.s, .slice Q.a Q.n Q.c, .slice Q.b Q.m Q.e] 42) = w8 at hnew b3 ⊢
          clear hw8
          replace hB := hB.trans (b3.mono hB.size)
          replace hHeld := (⟨below_cell b3 hHeld.1, below_cell b3 hHeld.2.1, below_cell b3 hHeld.2.2.1, below_cell b3 hHeld.2.2.2⟩ : _ ∧ _ ∧ _ ∧ _)
          refine hKK.out _ _ hHeld ?_
          clear hHeld
          intro hHeld
          clear hKK KK
          try simp only [pP, pN, pS, pZ, pC]
          have bT := bD.trans (b3.mono bD.size)
          have hO3 := own_below hO bT
          have s3 := b3.size
          have s4 := bD.size
          have s5 := hB.size
          refine wpAnyH_ready (rs := [5]) (by kernel_rfl) (by simp) ?_
          refine cons' rfl (fun KK hKK => ?_)
          refine step_append_lies _ (by rfl) _ _ _ (by rfl) w.heap.size 42 i0 _ 4 64 Tryz.underlying22 hi0 hz0 hz1 hz2 rfl (by omega) u9 R.length (cellsF R) (by rfl) hO3
            ⟨w7.heap.size, 0, none⟩ 1 1 (cells4 (y, Q)) (by rfl) (by rfl) (World.news_of_block (cs := #[.int .i64 y, .bool Q.s, .slice Q.a Q.n Q.c, .slice Q.b Q.m Q.e]) (t := 42) (fr := (0, 0)) hnew) (cells4_one _)
            (by omega) (by simp only [maxLen]; omega) (by omega) (by omega) w8.heap.size rfl ?_
          intro gb cap w9 hown4 hgrow hat hlt4
          have far : ∀ {o : Nat} {u : Value}, w8.cell? ⟨b2, o, none⟩ = some u → w9.cell? ⟨b2, o, none⟩ = some u := fun hu => hgrow.cell hu (fun e => by have := hrow _ e.symm; simp only at this; omega)
          refine hKK.out _ _ ⟨far hHeld.1, far hHeld.2.1, far hHeld.2.2.1, far hHeld.2.2.2⟩ ?_
          clear hHeld
          intro hHeld
          clear hKK KK
          try simp only [pP, pN, pS, pZ, pC]
          have I1 := hide' (And.intro (own_push hown4) (And.intro (hB.trans (below_grown hB.size (fun k hk => (hrow k hk).1) hgrow)) (grw_push (fun q hq => (hR q hq).later bT) (eQ.ent.grw hB (fun b e => (hrow b e).1)) (j := R.length + 1) (cap := cap) hgrow hat)))
          clear hown4 hgrow hat far
          refine tk 8 (v := ?_) rfl (Or.inl ⟨by rfl, ?_⟩) ?_
          rotate_left
          · intro w9 hSw
            go_simp
            first | done | with_reducible rfl
          simp only [pP, pN, pS, pZ, pC]
          refine tk 9 (v := ?_) rfl (Or.inl ⟨by rfl, ?_⟩) ?_
          rotate_left
          · intro w9 hSw
            go_simp
            first | done | with_reducible rfl
          simp only [pP, pN, pS, pZ, pC]
          refine wpAnyH_done (by kernel_rfl) ?_ _
          go_wp2
          go_roundw
          case rel => exact ⟨_, ca, (x, P) :: L9, a2, cb - 1, M9, R ++ [(y, Q)], by rw [hn], rfl, sa, tM, by intro p hp; rcases List.mem_cons.1 hp with rfl | hp; exact eP; exact eL p hp, eM, I1.out.1, I1.out.2.1, I1.out.2.2, by rw [← hT, fo_cons, fo_cons, mrg_gt hxy, fo_append, List.append_assoc]; rfl, by have := HN.out.1; rw [List.length_append]; simp only [List.length_cons, List.length_nil] at hlen ⊢; omega⟩
          case measure => have := HN.out.2; simp only [slen]; omega
end Go.Proofs.YtebbehlfocpjhaaGreat
