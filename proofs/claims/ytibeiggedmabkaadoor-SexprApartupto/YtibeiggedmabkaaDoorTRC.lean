/-
  The reference's Read.
-/
import Derived.Test.YtibeiggedmabkaaDoorTRB
import Derived.Test.YtibeiggedmabkaaDoorTR9
import Derived.Test.YtibeiggedmabkaaDoorTS9
namespace Go.Proofs.YtibeiggedmabkaaDoor
open Go.RowKit
set_option linter.unusedVariables false
set_option linter.unusedSimpArgs false
theorem results_ttt {fn : Func} {p u t : Tmp} (h : fn.results = #[.tmp p, .tmp u, .tmp t]) (tmps : Array Value) (P : Program) (w : World) :
    (results fn tmps).run P w = .ok (.tuple #[tmps.getD p undef, tmps.getD u undef, tmps.getD t undef]) w := by
  simp only [results, h]
  simp
set_option maxHeartbeats 8000000 in
set_option maxRecDepth 100000 in
theorem rread_is (s : ByteArray) (S : List UInt8) (hS : s.data.toList = S) (fin : Bool) (w : World) (hsz : s.size ≤ 4294967280) : Calls Tryd.prog 38 #[.string s, .bool fin] w fun r w' => ∃ v, r = .returned (.tuple #[v, .int .i64 (rdF fin S 0).2.1, .int .i64 (rdF fin S 0).2.2]) ∧ w'.ownsRow w.heap.size 32 6 v (rdF fin S 0).1.length (tokCells (rdF fin S 0).1) ∧ Below w.heap.size w w' ∧ ((rdF fin S 0).1 = [] → v = .slice none 0 0) := by
  have hy := fun k (h : k < s.size) => byS_byt h
  have hsl : s.size = S.length := by rw [← hS, Array.length_toList]; rfl
  rw [hS] at hy
  have HSS := hideT hS
  clear hS
  have HY := hideT hy
  have HL := hideT hsl
  clear hy hsl
  obtain ⟨R, hR⟩ : ∃ R, rdF fin S 0 = R := ⟨_, rfl⟩
  rw [hR]
  have GG0 := hideT (fun W => rgap_is s S HSS.out 0 W hsz (by omega))
  rw [show ((0 : Nat) : Int) = 0 from rfl] at GG0
  obtain ⟨a1, a2, a3, _⟩ := gapE_spec S 3 0 (Or.inl rfl) (Nat.zero_le _)
  have HI0 := hideT ((rdF_gap fin (Nat.zero_le _)).trans hR)
  rw [← HL.out] at a2 a3
  generalize gapE S 3 0 = k0 at GG0 a1 a2 a3 HI0
  have HA3 := hideT a3
  clear a3 hR a1
  go_enter Tryd.func38, Tryd.ntmps38
  go_wp2_with fail
  refine (GG0.out _).mono ?_
  rintro e w1 ⟨rfl, hw1⟩
  rw [hw1]
  clear hw1 w1 GG0
  go_wp2_with fail
  go_loopw [7, 8, 9, 10, 11] (fun l ln bg dn i wr => ∃ (k d : Nat) (T : List Tok), k ≤ s.size ∧ d ≤ k ∧ T.length ≤ k ∧ i = .int .i64 k ∧ dn = .int .i64 d ∧ ln = .int .i64 ((nlN S d : Int) + 1) ∧ bg = .int .i64 (ahN S d : Nat) ∧ wr.ownsRow w.heap.size 32 6 l T.length (tokCells T) ∧ Below w.heap.size w wr ∧ (T = [] → l = .slice none 0 0) ∧ (k < s.size → 4 < startN (byS S k)) ∧ (T ++ (rdF fin S k).1, (rdF fin S k).2) = R) (fun l ln bg dn i wr => s.size - (intOf i).toNat)
  case atStart => exact ⟨k0, 0, [], a2, Nat.zero_le _, Nat.zero_le _, rfl, rfl, rfl, rfl, World.ownsRow_nil _ _ _ _, Below.refl _ _, fun _ => rfl, HA3.out, by rw [← HI0.out]; rfl⟩
  case round =>
    clear HA3 HI0 a2
    obtain ⟨k, d, T, hk, hdk, hTk, rfl, rfl, rfl, rfl, own, hB, hnil, hs4, hi0⟩ := hrel
    have HI := hideT hi0
    have HN := hideT hnil
    have H4 := hideT hs4
    clear hi0 hnil hs4
    obtain ⟨a0, cp, ev⟩ := own_sl own
    subst ev
    by_cases hlt : k < s.size
    · have hki : ((k : Int) < (s.size : Int)) := by omega
      have hkl : k < S.length := by rw [← HL.out]; exact hlt
      have GL := hideT (fun W => look_is s S HSS.out k fin W hsz hlt)
      have hst := look_step hkl (H4.out hlt)
      rcases hX : lookP S k with ⟨kk, t, e, self⟩ | code | x
      · rw [hX] at GL hst
        clear hX
        by_cases ho : self = false ∧ e = s.size ∧ fin = false
        · obtain ⟨o1, o2, o3⟩ := ho
          subst o1
          subst o3
          rw [seenV_open o2] at GL
          unfold opV at GL
          have hop := rdF_open hst (by rw [← HL.out]; exact o2)
          have HOP := hideT hop
          clear hop o2 hst hkl
          have HRR := hideT (show R = (T, 0, (k : Int)) by rw [← HI.out, HOP.out]; simp)
          clear HI
          go_wp2_with fail
          refine (GL.out _).mono ?_
          rintro e_ w1 ⟨rfl, b1⟩
          clear GL
          have b2 := below_alloc (w := w1) (.cells #[.int .i64 1, .int .i64 0, .string ⟨#[]⟩, .int .i64 0, .int .i64 0, .int .i64 0] 92)
          have q8 := Blk.new w1 #[.int .i64 1, .int .i64 0, .string ⟨#[]⟩, .int .i64 0, .int .i64 0, .int .i64 0] 92
          have bb := b1.trans (b2.mono b1.size)
          have hw18 : wr.heap.size ≤ w1.heap.size := b1.size
          have hvb := fun g hg => (own_lt own (g := g) hg).2
          replace own := own_kp own (Kp.of (X := fun _ => False) bb) (fun _ _ c => c)
          replace hB := hB.trans (bb.mono hB.size)
          have y0 := q8.cell 0
          have y1 := q8.cell 1
          have y2 := q8.cell 2
          have y3 := q8.cell 3
          have y4 := q8.cell 4
          have y5 := q8.cell 5
          simp only [List.getElem?_toArray, List.getElem?_cons_zero, List.getElem?_cons_succ] at y0 y1 y2 y3 y4 y5
          go_wp2
          refine bodyPost_ret (v := .tuple #[.slice a0 T.length cp, .int .i64 (0), .int .i64 ((k : Int))]) (by rw [results_ttt rfl]; go_simp) rfl ?_
          rw [HRR.out]
          exact ⟨_, rfl, own, hB, HN.out⟩
        · rw [seenV_whole ho] at GL
          unfold whV at GL
          have htk := rdF_tok (fin := fin) hst (by rw [← HL.out]; exact ho)
          obtain ⟨e1, e2, e3, _, _⟩ := hst
          rw [← HL.out] at e2
          obtain ⟨g1, g2, g3, _⟩ := gapE_spec S 3 e (Or.inl rfl) (by rw [← HL.out]; exact e2)
          rw [← HL.out] at g2 g3
          have GG := hideT (fun W => rgap_is s S HSS.out e W hsz e2)
          have hnx : (T ++ [tokAt S kk t k e] ++ (rdF fin S (gapE S 3 e)).1, (rdF fin S (gapE S 3 e)).2) = R := by rw [← HI.out, rdF_gap fin (by rw [← HL.out]; exact e2), htk]; simp
          have HNX := hideT hnx
          clear hnx htk HI ho hkl
          generalize gapE S 3 e = k2 at GG g1 g2 g3 HNX
          have HG3 := hideT g3
          clear g3
          go_wp2_with fail
          refine (GL.out _).mono ?_
          rintro e_ w1 ⟨rfl, b1⟩
          clear GL
          have b2 := below_alloc (w := w1) (.cells #[.int .i64 0, .int .i64 kk, .string t, .int .i64 e, .int .i64 0, .int .i64 0] 92)
          have q8 := Blk.new w1 #[.int .i64 0, .int .i64 kk, .string t, .int .i64 e, .int .i64 0, .int .i64 0] 92
          have bb := b1.trans (b2.mono b1.size)
          have hw18 : wr.heap.size ≤ w1.heap.size := b1.size
          have hvb := fun g hg => (own_lt own (g := g) hg).2
          replace own := own_kp own (Kp.of (X := fun _ => False) bb) (fun _ _ c => c)
          replace hB := hB.trans (bb.mono hB.size)
          have y0 := q8.cell 0
          have y1 := q8.cell 1
          have y2 := q8.cell 2
          have y3 := q8.cell 3
          have y4 := q8.cell 4
          have y5 := q8.cell 5
          simp only [List.getElem?_toArray, List.getElem?_cons_zero, List.getElem?_cons_succ] at y0 y1 y2 y3 y4 y5
          go_wp2_with fail
          go_loop [8, 9, 10] (fun ln bg dn => ∃ d2 : Nat, d2 ≤ k ∧ dn = .int .i64 d2 ∧ ln = .int .i64 ((nlN S d2 : Int) + 1) ∧ bg = .int .i64 (ahN S d2 : Nat)) (fun ln bg dn => k - (intOf dn).toNat)
          case atStart => exact ⟨d, hdk, rfl, rfl, rfl⟩
          case round =>
            obtain ⟨d2, hd2, rfl, rfl, rfl⟩ := hrel
            have hnl := nlN_le S d2
            have hal := ahN_le S d2
            by_cases hdl : d2 < k
            · have hdi : ((d2 : Int) < (k : Int)) := by omega
              have hds : d2 < s.size := by omega
              have hb := byt_of hds
              have hyd := HY.out d2 hds
              by_cases h10 : byt s d2 = 10
              · have x10 : (((s[d2]'hds).toNat : Int) == 10) = true := by rw [← hb, h10]; rfl
                have z1 : (nlN S (d2 + 1) : Int) = (nlN S d2 : Int) + 1 := by rw [show nlN S (d2 + 1) = nlN S d2 + 1 by simp only [nlN]; rw [hyd, if_pos h10]]; omega
                have z2 : ahN S (d2 + 1) = d2 + 1 := by simp only [ahN]; rw [hyd, if_pos h10]
                have HZ := hideT (And.intro z1 z2)
                clear z1 z2 h10 hb hyd
                go_wp2
                go_round
                case rel => exact ⟨d2 + 1, by omega, by go_num, by rw [HZ.out.1], by rw [HZ.out.2]; go_num⟩
                case measure => simp [intOf]; omega
              · have x10 : (((s[d2]'hds).toNat : Int) == 10) = false := by rw [← hb, beq_eq_false_iff_ne]; omega
                have z1 : nlN S (d2 + 1) = nlN S d2 := by simp only [nlN]; rw [hyd, if_neg h10]
                have z2 : ahN S (d2 + 1) = ahN S d2 := by simp only [ahN]; rw [hyd, if_neg h10]
                have HZ := hideT (And.intro z1 z2)
                clear z1 z2 h10 hb hyd
                go_wp2
                go_round
                case rel => exact ⟨d2 + 1, by omega, by go_num, by rw [HZ.out.1], by rw [HZ.out.2]⟩
                case measure => simp [intOf]; omega
            · have hdi : ¬ ((d2 : Int) < (k : Int)) := by omega
              have ed : d2 = k := by omega
              subst ed
              generalize (w1.alloc (.cells #[.int .i64 0, .int .i64 kk, .string t, .int .i64 e, .int .i64 0, .int .i64 0] 92)) = W2 at own hB q8 bb b2 y0 y1 y2 y3 y4 y5 ⊢
              obtain ⟨wx, hwx⟩ : ∃ wx, W2.alloc (.cells #[.int .i64 kk, .string t, .int .i64 d2, .int .i64 e, .int .i64 ((nlN S d2 : Int) + 1), .int .i64 ((d2 : Int) - (ahN S d2 : Int) + 1)] 32) = wx := ⟨_, rfl⟩
              have hnew := heap_alloc_new W2 (.cells #[.int .i64 kk, .string t, .int .i64 d2, .int .i64 e, .int .i64 ((nlN S d2 : Int) + 1), .int .i64 ((d2 : Int) - (ahN S d2 : Int) + 1)] 32)
              have b3 := below_alloc (w := W2) (.cells #[.int .i64 kk, .string t, .int .i64 d2, .int .i64 e, .int .i64 ((nlN S d2 : Int) + 1), .int .i64 ((d2 : Int) - (ahN S d2 : Int) + 1)] 32)
              rw [hwx] at hnew b3
              have own2 := own_kp own (Kp.of (X := fun _ => False) b3) (fun _ _ c => c)
              have hk2 : T.length + 1 ≤ maxLen := by simp only [maxLen]; omega
              have hbl2 : (T.length + 1) * 56 ≤ 140737488355328 := by omega
              have hbB : w.heap.size ≤ wx.heap.size := Nat.le_trans hB.size b3.size
              obtain ⟨i0, hi0, hz0, hz1, hz2⟩ := info_parts info_Tok
              go_wp2_with (at_builtin; (try rw [hwx]); (refine wpList_append_lies _ (by rfl) _ _ _ (by rfl) w.heap.size 32 i0 _ 6 56 Tryd.underlying69 hi0 hz0 hz1 hz2 rfl (by omega) (.slice a0 T.length cp) T.length (tokCells T) (by rfl) own2 ⟨W2.heap.size, 0, none⟩ 1 1 [.int .i64 kk, .string t, .int .i64 d2, .int .i64 e, .int .i64 ((nlN S d2 : Int) + 1), .int .i64 ((d2 : Int) - (ahN S d2 : Int) + 1)] (by rfl) (by rfl) (World.news_of_block (cs := #[.int .i64 kk, .string t, .int .i64 d2, .int .i64 e, .int .i64 ((nlN S d2 : Int) + 1), .int .i64 ((d2 : Int) - (ahN S d2 : Int) + 1)]) (t := 32) (fr := (0, 0)) hnew) (by simp [Value.oneCell']) (by omega) hk2 hbl2 hbB wx.heap.size rfl ?_))
              intro gb cap wd hown4 hgrow hat hlt4
              have kg := Kp.grown hgrow (fun k e => e)
              have q9 := kg.blk (q8.later b3) (fun c => by have := hvb _ c; omega)
              have z3 := q9.cell 3
              simp only [List.getElem?_toArray, List.getElem?_cons_zero, List.getElem?_cons_succ] at z3
              have hlo := fun g hg => (own_lt own (g := g) hg).1
              replace hB := (hB.trans (b3.mono hB.size)).trans (kg.below hbB (fun k hk c => by have := hlo _ c; omega))
              have hcol : ((d2 : Int) - (ahN S d2 : Int) + 1) = ((d2 - ahN S d2 : Nat) : Int) + 1 := by omega
              have own3 : wd.ownsRow w.heap.size 32 6 (.slice (some ⟨gb, 0, none⟩) (T.length + 1) cap) (T ++ [tokAt S kk t d2 e]).length (tokCells (T ++ [tokAt S kk t d2 e])) := by
                rw [List.length_append, tokCells_app]
                rw [hcol] at hown4
                exact hown4
              clear kg hown4 hgrow hat own2 own hk2 hbl2 hbB hnew b3 hwx hi0 hz0 hz1 hz2 q8 q9 bb b2 hvb hlo b1 y0 y1 y2 y3 y4 y5
              go_wp2_with fail
              refine (GG.out _).mono ?_
              rintro e_ w5 ⟨rfl, hw5⟩
              rw [hw5]
              clear hw5 w5
              go_wp2
              go_roundw
              case rel => exact ⟨k2, d2, T ++ [tokAt S kk t d2 e], g2, by omega, by rw [List.length_append]; simp only [List.length_cons, List.length_nil]; omega, rfl, rfl, rfl, rfl, own3, hB, fun c => absurd (List.append_eq_nil_iff.1 c).2 (by simp), HG3.out, HNX.out⟩
              case measure => simp [intOf]; omega
      · rw [hX] at GL hst
        clear hX
        obtain ⟨p1, p2⟩ := rdF_half hst
        clear hst hkl
        cases fin
        · have HP := hideT p2
          clear p1 p2
          have eV : seenV s.size k false (.half code) = opV := rfl
          rw [eV] at GL
          unfold opV at GL
          clear eV
          have HRR := hideT (show R = (T, 0, (k : Int)) by rw [← HI.out, HP.out]; simp)
          clear HI
          go_wp2_with fail
          refine (GL.out _).mono ?_
          rintro e_ w1 ⟨rfl, b1⟩
          clear GL
          have b2 := below_alloc (w := w1) (.cells #[.int .i64 1, .int .i64 0, .string ⟨#[]⟩, .int .i64 0, .int .i64 0, .int .i64 0] 92)
          have q8 := Blk.new w1 #[.int .i64 1, .int .i64 0, .string ⟨#[]⟩, .int .i64 0, .int .i64 0, .int .i64 0] 92
          have bb := b1.trans (b2.mono b1.size)
          have hw18 : wr.heap.size ≤ w1.heap.size := b1.size
          have hvb := fun g hg => (own_lt own (g := g) hg).2
          replace own := own_kp own (Kp.of (X := fun _ => False) bb) (fun _ _ c => c)
          replace hB := hB.trans (bb.mono hB.size)
          have y0 := q8.cell 0
          have y1 := q8.cell 1
          have y2 := q8.cell 2
          have y3 := q8.cell 3
          have y4 := q8.cell 4
          have y5 := q8.cell 5
          simp only [List.getElem?_toArray, List.getElem?_cons_zero, List.getElem?_cons_succ] at y0 y1 y2 y3 y4 y5
          go_wp2
          refine bodyPost_ret (v := .tuple #[.slice a0 T.length cp, .int .i64 (0), .int .i64 ((k : Int))]) (by rw [results_ttt rfl]; go_simp) rfl ?_
          rw [HRR.out]
          exact ⟨_, rfl, own, hB, HN.out⟩
        · have HP := hideT p1
          clear p1 p2
          have eV : seenV s.size k true (.half code) = wrV code k := rfl
          rw [eV] at GL
          unfold wrV at GL
          clear eV
          have HRR := hideT (show R = (T, code, (k : Int)) by rw [← HI.out, HP.out]; simp)
          clear HI
          go_wp2_with fail
          refine (GL.out _).mono ?_
          rintro e_ w1 ⟨rfl, b1⟩
          clear GL
          have b2 := below_alloc (w := w1) (.cells #[.int .i64 2, .int .i64 0, .string ⟨#[]⟩, .int .i64 0, .int .i64 code, .int .i64 k] 92)
          have q8 := Blk.new w1 #[.int .i64 2, .int .i64 0, .string ⟨#[]⟩, .int .i64 0, .int .i64 code, .int .i64 k] 92
          have bb := b1.trans (b2.mono b1.size)
          have hw18 : wr.heap.size ≤ w1.heap.size := b1.size
          have hvb := fun g hg => (own_lt own (g := g) hg).2
          replace own := own_kp own (Kp.of (X := fun _ => False) bb) (fun _ _ c => c)
          replace hB := hB.trans (bb.mono hB.size)
          have y0 := q8.cell 0
          have y1 := q8.cell 1
          have y2 := q8.cell 2
          have y3 := q8.cell 3
          have y4 := q8.cell 4
          have y5 := q8.cell 5
          simp only [List.getElem?_toArray, List.getElem?_cons_zero, List.getElem?_cons_succ] at y0 y1 y2 y3 y4 y5
          go_wp2_with fail
          go_quiet (fail)
          go_wp2
          refine bodyPost_ret (v := .tuple #[.slice a0 T.length cp, .int .i64 (code), .int .i64 ((k : Int))]) (by rw [results_ttt rfl]; go_simp) rfl ?_
          rw [HRR.out]
          exact ⟨_, rfl, own, hB.trans ⟨rfl, rfl, rfl, Nat.le_refl _, fun _ _ => rfl⟩, HN.out⟩
      · rw [hX] at GL hst
        clear hX
        have HP := hideT (rdF_bad fin hst)
        clear hst hkl
        have eV : seenV s.size k fin (.bad x) = wrV 120 x := rfl
        rw [eV] at GL
        unfold wrV at GL
        clear eV
        have HRR := hideT (show R = (T, 120, (x : Int)) by rw [← HI.out, HP.out]; simp)
        clear HI
        go_wp2_with fail
        refine (GL.out _).mono ?_
        rintro e_ w1 ⟨rfl, b1⟩
        clear GL
        have b2 := below_alloc (w := w1) (.cells #[.int .i64 2, .int .i64 0, .string ⟨#[]⟩, .int .i64 0, .int .i64 120, .int .i64 x] 92)
        have q8 := Blk.new w1 #[.int .i64 2, .int .i64 0, .string ⟨#[]⟩, .int .i64 0, .int .i64 120, .int .i64 x] 92
        have bb := b1.trans (b2.mono b1.size)
        have hw18 : wr.heap.size ≤ w1.heap.size := b1.size
        have hvb := fun g hg => (own_lt own (g := g) hg).2
        replace own := own_kp own (Kp.of (X := fun _ => False) bb) (fun _ _ c => c)
        replace hB := hB.trans (bb.mono hB.size)
        have y0 := q8.cell 0
        have y1 := q8.cell 1
        have y2 := q8.cell 2
        have y3 := q8.cell 3
        have y4 := q8.cell 4
        have y5 := q8.cell 5
        simp only [List.getElem?_toArray, List.getElem?_cons_zero, List.getElem?_cons_succ] at y0 y1 y2 y3 y4 y5
        go_wp2_with fail
        go_quiet (fail)
        go_wp2
        refine bodyPost_ret (v := .tuple #[.slice a0 T.length cp, .int .i64 (120), .int .i64 ((x : Int))]) (by rw [results_ttt rfl]; go_simp) rfl ?_
        rw [HRR.out]
        exact ⟨_, rfl, own, hB.trans ⟨rfl, rfl, rfl, Nat.le_refl _, fun _ _ => rfl⟩, HN.out⟩
    · have hki : ¬ ((k : Int) < (s.size : Int)) := by omega
      have ek : k = S.length := by rw [← HL.out]; omega
      have HRR := hideT (show R = (T, 0, (k : Int)) by rw [← HI.out, ek, rdF_end]; simp)
      clear HI ek
      go_wp2
      refine bodyPost_ret (v := .tuple #[.slice a0 T.length cp, .int .i64 0, .int .i64 (k : Int)]) (by rw [results_ttt rfl]; go_simp) rfl ?_
      rw [HRR.out]
      exact ⟨_, rfl, own, hB, HN.out⟩

end Go.Proofs.YtibeiggedmabkaaDoor
