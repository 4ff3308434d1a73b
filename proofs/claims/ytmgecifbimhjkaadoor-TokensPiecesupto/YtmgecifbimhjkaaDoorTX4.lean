/-
  TokensPieces: the walk.
-/
import Derived.Test.YtmgecifbimhjkaaDoorTX3
namespace Go.Proofs.YtmgecifbimhjkaaDoor
open Go.RowKit
set_option linter.unusedVariables false
set_option linter.unusedSimpArgs false
set_option maxHeartbeats 16000000 in
set_option maxRecDepth 100000 in
theorem pieces_walk (a : Option Addr) (n c : Nat) (g : Nat → ByteArray) (w : World) (hS : StrsAt w a n g) (ht : tots g n ≤ 1048576) (hn : n ≤ 1048576) (hM : MaxL w) (hmx : mxB < w.heap.size) : Calls Tryd.prog 7 #[.slice a n c] w fun r w' => r = .returned (.bool true) ∧ Below w.heap.size w w' := by
  have HSA := hideT hS
  clear hS
  have HTM := hideT (fun k (h : k ≤ n) => tots_mono g h)
  have hnw := fun W => new_is W
  have b1 := below_alloc (w := w) (.cells #[.int .i64 3, .slice none 0 0, .int .i64 0, .string ⟨#[]⟩, .int .i64 0, .int .i64 0, .int .i64 0, .int .i64 0, .int .i64 0, .int .i64 0, .int .i64 0, .int .i64 0] 51)
  have q1 := Blk.new w #[.int .i64 3, .slice none 0 0, .int .i64 0, .string ⟨#[]⟩, .int .i64 0, .int .i64 0, .int .i64 0, .int .i64 0, .int .i64 0, .int .i64 0, .int .i64 0, .int .i64 0] 51
  have e1 : (w.alloc (.cells #[.int .i64 3, .slice none 0 0, .int .i64 0, .string ⟨#[]⟩, .int .i64 0, .int .i64 0, .int .i64 0, .int .i64 0, .int .i64 0, .int .i64 0, .int .i64 0, .int .i64 0] 51)).heap.size = w.heap.size + 1 := by simp
  go_enter Tryd.func7, Tryd.ntmps7
  go_wp2_with fail
  refine (hnw _).mono ?_
  rintro e_ w1 ⟨rfl, hw⟩
  rw [← hw] at b1 q1 e1
  clear hw hnw
  have sx : ScAt w1 (w.heap.size + 1) w.heap.size sI := ⟨q1, by omega, hmx, World.ownsRow_nil _ _ _ _⟩
  have p0 : PSt w1 (w.heap.size + 1) w.heap.size ⟨#[]⟩ 0 0 := Or.inl ⟨rfl, [], pI, sI, rfl, rfl, sx, RelS_I, Inv_pI⟩
  have hz1 : w.heap.size + 1 ≤ w1.heap.size := by omega
  clear q1 sx e1
  go_wp2_with fail
  go_loopw [4, 5, 6, 7] (fun t4 t5 t6 i wr => ∃ (k : Nat) (tx : ByteArray) (td : Nat) (cd : Int), k ≤ n ∧ i = .int .i64 k ∧ t4 = .string tx ∧ t5 = .int .i64 td ∧ t6 = .int .i64 cd ∧ Below w.heap.size w wr ∧ w.heap.size + 1 ≤ wr.heap.size ∧ tx.size ≤ tots g k ∧ PSt wr (w.heap.size + 1) w.heap.size tx td cd) (fun t4 t5 t6 i wr => n - (intOf i).toNat)
  case atStart => exact ⟨0, ⟨#[]⟩, 0, 0, Nat.zero_le _, rfl, rfl, rfl, rfl, b1, hz1, Nat.le_refl _, p0⟩
  case round =>
    clear b1 hz1 p0
    obtain ⟨k, tx, td, cd, hk, rfl, rfl, rfl, rfl, hB, hwz, htz, hp⟩ := hrel
    have hMr := hM.on hB
    by_cases hlt : k < n
    · have hki : ((k : Int) < (n : Int)) := by omega
      obtain ⟨b0, off, ea, hcell⟩ := HSA.out (by omega)
      subst ea
      have hc0 := hcell k hlt
      have hc1 := below_at hB (World.block_lt_of_cell? w _ hc0) hc0
      have htk : tots g (k + 1) ≤ 1048576 := Nat.le_trans (HTM.out (k + 1) (by omega)) ht
      have htk2 : tots g (k + 1) = tots g k + (g k).size := rfl
      clear hcell
      rcases hp with ⟨rfl, ts, q, X, hf, rfl, sc, rl, iv⟩ | ⟨rfl, X, sc, hst, her⟩
      · obtain ⟨f1, f2, f3, f4, f5⟩ := feed_rd (lsB tx) Inv_pI hf
        rw [lsB_len] at f2 f5
        have f2b : q.rd = tx.size := by rw [f2]; show 0 + tx.size = _; omega
        rcases hfq : feedP q (lsB (g k)) with ⟨us, o⟩
        have hfm := feed_more hf hfq
        have G1 := hideT (feedS (w.heap.size + 1) w.heap.size X q (g k) wr sc hwz rl iv (by omega) (f3 (Nat.le_refl _)) (f4 (Nat.le_refl _)) hMr)
        change Hid (Calls _ _ _ _ fun e w' => ∃ v er, e = .returned (.tuple #[v, .int .i64 er]) ∧ w'.ownsRow (wr.heap.size + 1) _ 6 v (feedP q (lsB (g k))).1.length (tokCells (feedP q (lsB (g k))).1) ∧ _ ∧ FOut w' _ _ _ v er (feedP q (lsB (g k))).2 ∧ _) at G1
        rw [hfq] at G1
        have hul : us.length ≤ 2097152 := by
          have hx := feed_tsl hfm
          rw [lsB_len, ByteArray.size_append, List.length_append] at hx
          omega
        have hz2 : (tx ++ g k).size ≤ 1048576 := by rw [ByteArray.size_append]; omega
        obtain ⟨nn, n1, n2, n3⟩ := at_place hfm (by rw [lsB_len]; omega)
        rw [lsB_len] at n1
        obtain ⟨r1, r2⟩ := rd_false hfm
        have GR := hideT (fun W => read_is (tx ++ g k) (lsB (tx ++ g k)) rfl false W (by omega))
        rw [r1, r2, n2] at GR
        have GP := hideT (fun W => place_is (tx ++ g k) (lsB (tx ++ g k)) rfl nn W (by omega) n1)
        obtain ⟨eo, heo⟩ : ∃ eo, errO o = eo := ⟨_, rfl⟩
        rw [heo] at GR
        have HEO := hideT heo
        have HFM := hideT hfm
        have HAT := hideT n3
        have HTZ := hideT (show (tx ++ g k).size ≤ tots g (k + 1) by rw [ByteArray.size_append, htk2]; omega)
        have hrows : ∀ i, i < w.heap.size → ¬ Scan.rows w.heap.size X.cv i := fun i hi c => by rcases c with c | c; omega; have := (own_lt sc.own c).1; omega
        clear hf hfq hfm heo n2 n3 r1 r2 f1 f2 f3 f4 f5 sc rl iv f2b htk2
        obtain ⟨TX, hTX⟩ : ∃ TX, tx ++ g k = TX := ⟨_, rfl⟩
        have hcat : (tx ++ g k) = TX := hTX
        rw [hTX] at hz2 n1 GR GP HFM HTZ HAT
        have HCT := hideT hTX
        clear hTX hcat
        go_wp2_with fail
        refine G1.out.mono ?_
        rintro e_ w2 ⟨v, er, rfl, own, kz, out, _⟩
        clear G1
        have her := out.er
        rw [HEO.out] at her
        subst her
        have hB2 := hB.trans (kz.below (by omega) (fun i hi c => hrows i hi c))
        have hc2 := below_at hB2 (World.block_lt_of_cell? w _ hc0) hc0
        have hkz := kz.size
        clear kz hrows hB hc1
        have hcs : tx.size + (g k).size ≤ 1048576 := by rw [← HCT.out, ByteArray.size_append] at hz2; exact hz2
        go_wp2_with fail
        rw [HCT.out]
        refine (GR.out _).mono ?_
        rintro e_ w3 ⟨v3, rfl, own3, b3, _⟩
        clear GR hcs
        replace own := own_kp own (Kp.of (X := fun _ => False) b3) (fun _ _ c => c)
        replace out := out.kp (Kp.of (X := fun _ => False) b3) (fun c => c) (fun _ _ _ c => c)
        replace hB2 := hB2.trans (b3.mono hB2.size)
        have hb3 := b3.size
        clear b3
        obtain ⟨a6, c6, ev6⟩ := own_sl own3
        obtain ⟨n6, hn6⟩ : ∃ n6, (ts ++ us).length = n6 := ⟨_, rfl⟩
        rw [hn6] at ev6
        subst ev6
        have hn7 : ts.length ≤ n6 := by rw [← hn6, List.length_append]; omega
        have hsl := fun wx => slice_toks a6 n6 c6 ts.length hn7 wx
        have tk2 := own_rest own3 hn6.symm
        have tk1 := own_tokSl own
        generalize sliced a6 ts.length n6 c6 6 = V at hsl tk2
        have HN6 := hideT hn6
        clear hn6
        have GS5 := hideT (same_at v V us w3 tk1 tk2 (by omega))
        clear tk1 tk2 own3 own
        go_wp2_with fail
        refine GS5.out.mono ?_
        rintro e_ w4 ⟨rfl, b4⟩
        clear GS5
        replace out := out.kp (Kp.of (X := fun _ => False) b4) (fun c => c) (fun _ _ _ c => c)
        replace hB2 := hB2.trans (b4.mono hB2.size)
        have hb4 := b4.size
        clear b4
        have GA := hideT (HAT.out w4 _ _ _ _ _ out)
        clear HAT
        go_wp2_with fail
        refine GA.out.mono ?_
        rintro e_ w5 ⟨rfl, b5⟩
        clear GA
        replace out := out.kp (Kp.of (X := fun _ => False) b5) (fun c => c) (fun _ _ _ c => c)
        replace hB2 := hB2.trans (b5.mono hB2.size)
        have hb5 := b5.size
        clear b5
        go_wp2_with fail
        refine (GP.out _).mono ?_
        rintro e_ w6 ⟨rfl, b6⟩
        clear GP
        replace out := out.kp (Kp.of (X := fun _ => False) b6) (fun c => c) (fun _ _ _ c => c)
        replace hB2 := hB2.trans (b6.mono hB2.size)
        have hb6 := b6.size
        clear b6
        have hps : PSt w6 (w.heap.size + 1) w.heap.size TX n6 er := by
          have hh := HEO.out
          subst hh
          rw [← HN6.out]
          exact pst_of HFM.out out
        have HPS := hideT hps
        clear hps out
        go_wp2
        go_roundw
        case rel => exact ⟨k + 1, TX, n6, er, by omega, by go_num, rfl, rfl, rfl, hB2, by omega, HTZ.out, HPS.out⟩
        case measure => simp [intOf]; omega
      · have G1 := hideT (feed_failed _ _ X wr sc hst (by rw [her]; decide) (g k))
        rw [her] at G1
        have HPS := hideT (show PSt wr (w.heap.size + 1) w.heap.size tx td 120 from Or.inr ⟨rfl, X, sc, hst, her⟩)
        clear sc hst her
        go_wp2_with fail
        refine G1.out.mono ?_
        rintro e_ w2 ⟨rfl, hw2⟩
        rw [hw2]
        clear hw2 w2 G1
        go_wp2
        go_roundw
        case rel => exact ⟨k + 1, tx, td, 120, by omega, by go_num, rfl, rfl, rfl, hB, hwz, by omega, HPS.out⟩
        case measure => simp [intOf]; omega
    · have hki : ¬ ((k : Int) < (n : Int)) := by omega
      have htn : tx.size ≤ 1048576 := by have := HTM.out k hk; omega
      rcases hp with ⟨rfl, ts, q, X, hf, rfl, sc, rl, iv⟩ | ⟨rfl, X, sc, hst, her⟩
      · obtain ⟨f1, f2, f3, f4, f5⟩ := feed_rd (lsB tx) Inv_pI hf
        rw [lsB_len] at f2 f5
        have f2b : q.rd = tx.size := by rw [f2]; show 0 + tx.size = _; omega
        have G1 := hideT (endX (w.heap.size + 1) w.heap.size X q wr sc hwz rl iv (by omega) (f3 (Nat.le_refl _)) hMr)
        obtain ⟨nn, n1, n2, n3, n4, n5⟩ := place_end hf
        rw [lsB_len] at n1 n5
        have hrt := rd_true hf
        have hel := end_len q
        obtain ⟨_, _, _, _, _, g5, g6, g7, _⟩ := place_ok hf
        rw [lsB_len] at g5 g6 g7
        have GR := hideT (fun W => read_is tx (lsB tx) rfl true W (by omega))
        rw [hrt, n3, n2] at GR
        have GP := hideT (fun W => place_is tx (lsB tx) rfl nn W (by omega) n1)
        have hrows : ∀ i, i < w.heap.size → ¬ Scan.rows w.heap.size X.cv i := fun i hi c => by rcases c with c | c; omega; have := (own_lt sc.own c).1; omega
        obtain ⟨te, hte⟩ : ∃ te, (endP q).1 = te := ⟨_, rfl⟩
        obtain ⟨ee, hee⟩ : ∃ ee, (endP q).2 = ee := ⟨_, rfl⟩
        rw [hte, hee] at G1
        rw [hte, hee] at GR
        rw [hte] at hel
        rw [hee] at n4 n5
        have H4 := hideT n4
        have H5 := hideT n5
        have H67 := hideT (And.intro g5 (And.intro g6 g7))
        clear n2 n3 n4 n5 hrt hte hee f1 f2 f3 f4 f5 sc rl iv hf g5 g6 g7
        go_wp2_with fail
        refine G1.out.mono ?_
        rintro e_ w2 ⟨v, rfl, own, kz, ⟨X2, sc, s1, s2, s3⟩, _⟩
        clear G1
        have hB2 := hB.trans (kz.below (by omega) (fun i hi c => hrows i hi c))
        have hkz := kz.size
        clear kz hrows hB
        have HS1 := hideT s1
        have HS2 := hideT s2
        have HS3 := hideT s3
        clear s1 s2 s3
        go_wp2_with fail
        refine (GR.out _).mono ?_
        rintro e_ w3 ⟨v3, rfl, own3, b3, _⟩
        clear GR
        replace own := own_kp own (Kp.of (X := fun _ => False) b3) (fun _ _ c => c)
        replace sc := sc.kp (Kp.of (X := fun _ => False) b3) (fun _ _ c => c)
        replace hB2 := hB2.trans (b3.mono hB2.size)
        clear b3
        obtain ⟨a6, c6, ev6⟩ := own_sl own3
        obtain ⟨n6, hn6⟩ : ∃ n6, (ts ++ te).length = n6 := ⟨_, rfl⟩
        rw [hn6] at ev6
        subst ev6
        have hn7 : ts.length ≤ n6 := by rw [← hn6, List.length_append]; omega
        have hsl := fun wx => slice_toks a6 n6 c6 ts.length hn7 wx
        have tk2 := own_rest own3 hn6.symm
        have tk1 := own_tokSl own
        generalize sliced a6 ts.length n6 c6 6 = V at hsl tk2
        have HN6 := hideT hn6
        clear hn6
        have GS5 := hideT (same_at v V te w3 tk1 tk2 (by omega))
        clear tk1 tk2 own3 own
        go_wp2_with fail
        refine GS5.out.mono ?_
        rintro e_ w4 ⟨rfl, b4⟩
        clear GS5
        replace sc := sc.kp (Kp.of (X := fun _ => False) b4) (fun _ _ c => c)
        replace hB2 := hB2.trans (b4.mono hB2.size)
        clear b4
        by_cases h0 : ee = 0
        · obtain ⟨u1, u2, u3, u4⟩ := HS3.out h0
          have en := H5.out h0
          obtain ⟨g5, g6, g7⟩ := H67.out
          subst h0
          have hnl := nlN_le (lsB tx) tx.size
          have GA := hideT (at_here _ _ X2 w4 sc (Or.inl u1) (by rw [u2, g5]; omega) (by rw [u3, g6]; omega) (by rw [u4, u2, g7, g5]; exact ahN_le _ _))
          rw [u2, u3, u4, g5, g6, g7, ← en] at GA
          have HE1 := hideT u1
          clear u1 u2 u3 u4 g5 g6 g7 en hnl HS1 HS2 HS3 H4 H5 H67
          go_wp2_with fail
          refine GA.out.mono ?_
          rintro e_ w5 ⟨rfl, b5⟩
          clear GA
          replace sc := sc.kp (Kp.of (X := fun _ => False) b5) (fun _ _ c => c)
          replace hB2 := hB2.trans (b5.mono hB2.size)
          clear b5
          go_wp2_with fail
          refine (GP.out _).mono ?_
          rintro e_ w6 ⟨rfl, b6⟩
          clear GP
          replace sc := sc.kp (Kp.of (X := fun _ => False) b6) (fun _ _ c => c)
          replace hB2 := hB2.trans (b6.mono hB2.size)
          clear b6
          have GF := hideT (feed_ended _ _ X2 w6 sc HE1.out ⟨#[120]⟩)
          have GE2 := hideT (end_ended _ _ X2 w6 sc HE1.out)
          clear sc
          go_wp2_with fail
          refine GF.out.mono ?_
          rintro e_ w7 ⟨rfl, hw7⟩
          rw [hw7]
          clear hw7 w7 GF
          go_wp2_with fail
          refine GE2.out.mono ?_
          rintro e_ w7 ⟨rfl, hw7⟩
          rw [hw7]
          clear hw7 w7 GE2
          go_wp2
          go_ret
          exact ⟨rfl, hB2⟩
        · obtain ⟨u1, u2, u3, u4, u5⟩ := HS1.out h0
          obtain ⟨e1, e2, e3⟩ := H4.out h0
          have u6 := HS2.out h0
          have GA := hideT (at_failed _ _ X2 w4 sc u1)
          rw [u2, u3, u4, u5, e1, e2, e3] at GA
          have HE1 := hideT (And.intro u1 u6)
          have H0 := hideT h0
          have xe : (ee != 0) = true := by rw [bne_iff_ne]; exact h0
          clear u1 u2 u3 u4 u5 u6 e1 e2 e3 h0 HS1 HS2 HS3 H4 H5 H67
          go_wp2_with fail
          refine GA.out.mono ?_
          rintro e_ w5 ⟨rfl, b5⟩
          clear GA
          replace sc := sc.kp (Kp.of (X := fun _ => False) b5) (fun _ _ c => c)
          replace hB2 := hB2.trans (b5.mono hB2.size)
          clear b5
          go_wp2_with fail
          refine (GP.out _).mono ?_
          rintro e_ w6 ⟨rfl, b6⟩
          clear GP
          replace sc := sc.kp (Kp.of (X := fun _ => False) b6) (fun _ _ c => c)
          replace hB2 := hB2.trans (b6.mono hB2.size)
          clear b6
          have GF := hideT (feed_failed _ _ X2 w6 sc HE1.out.1 (by rw [HE1.out.2]; exact H0.out) ⟨#[120]⟩)
          have GE2 := hideT (end_failed2 _ _ X2 w6 sc HE1.out.1 (by rw [HE1.out.2]; exact H0.out))
          rw [HE1.out.2] at GF GE2
          clear sc
          go_wp2_with fail
          refine GF.out.mono ?_
          rintro e_ w7 ⟨rfl, hw7⟩
          rw [hw7]
          clear hw7 w7 GF
          go_wp2_with fail
          refine GE2.out.mono ?_
          rintro e_ w7 ⟨rfl, hw7⟩
          rw [hw7]
          clear hw7 w7 GE2
          go_wp2
          go_ret
          exact ⟨rfl, hB2⟩
      · have G1 := hideT (end_failed2 _ _ X wr sc hst (by rw [her]; decide))
        rw [her] at G1
        clear sc hst her
        go_wp2_with fail
        refine G1.out.mono ?_
        rintro e_ w2 ⟨rfl, hw2⟩
        rw [hw2]
        clear hw2 w2 G1
        go_wp2
        go_ret
        exact ⟨rfl, hB⟩

end Go.Proofs.YtmgecifbimhjkaaDoor
