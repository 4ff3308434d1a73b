/-
  The reference's Whole and Read.
-/
import Derived.Test.YtibeiggedmabkaaDoorTRB
import Derived.Test.YtibeiggedmabkaaDoorTR9
import Derived.Test.YtibeiggedmabkaaDoorTS9
import Derived.Test.YtibeiggedmabkaaDoorSZ4
import Derived.Test.YtibeiggedmabkaaDoorSXL
namespace Go.Proofs.YtibeiggedmabkaaDoor
open Go.RowKit
set_option linter.unusedVariables false
set_option linter.unusedSimpArgs false
theorem results_ttt {fn : Func} {p u t : Tmp} (h : fn.results = #[.tmp p, .tmp u, .tmp t]) (tmps : Array Value) (P : Program) (w : World) :
    (results fn tmps).run P w = .ok (.tuple #[tmps.getD p undef, tmps.getD u undef, tmps.getD t undef]) w := by
  simp only [results, h]
  simp
set_option maxHeartbeats 8000000 in
set_option maxRecDepth 100000 in
theorem rread_is (s : ByteArray) (S : List UInt8) (hS : s.data.toList = S) (fin : Bool) (w : World) (hsz : s.size ≤ 4294967280) : Calls Tryd.prog 38 #[.string s, .bool fin] w fun r w' => ∃ v, r = .returned (.tuple #[v, .int .i64 (rdF fin S 0).2.1, .int .i64 (rdF fin S 0).2.2]) ∧ w'.ownsRow w.heap.size 32 6 v (rdF fin S 0).1.length (tokCells (rdF fin S 0).1) ∧ Below w.heap.size w w' ∧ ((rdF fin S 0).1 = [] → v = .slice none 0 0) := by
  have hy := fun k (h : k < s.size) => byS_byt h
  have hsl : s.size = S.length := by rw [← hS, Array.length_toList]; rfl
  rw [hS] at hy
  have HSS := hideT hS
  clear hS
  have HY := hideT hy
  have HL := hideT hsl
  clear hy hsl
  obtain ⟨R, hR⟩ : ∃ R, rdF fin S 0 = R := ⟨_, rfl⟩
  rw [hR]
  have GG0 := hideT (fun W => rgap_is s S HSS.out 0 W hsz (by omega))
  rw [show ((0 : Nat) : Int) = 0 from rfl] at GG0
  obtain ⟨a1, a2, a3, _⟩ := gapE_spec S 3 0 (Or.inl rfl) (Nat.zero_le _)
  have HI0 := hideT ((rdF_gap fin (Nat.zero_le _)).trans hR)
  rw [← HL.out] at a2 a3
  generalize gapE S 3 0 = k0 at GG0 a1 a2 a3 HI0
  have HA3 := hideT a3
  clear a3 hR a1
  go_enter Tryd.func38, Tryd.ntmps38
  go_wp2_with fail
  refine (GG0.out _).mono ?_
  rintro e w1 ⟨rfl, hw1⟩
  rw [hw1]
  clear hw1 w1 GG0
  go_wp2_with fail
  go_loopw [7, 8, 9, 10, 11] (fun l ln bg dn i wr => ∃ (k d : Nat) (T : List Tok), k ≤ s.size ∧ d ≤ k ∧ T.length ≤ k ∧ i = .int .i64 k ∧ dn = .int .i64 d ∧ ln = .int .i64 ((nlN S d : Int) + 1) ∧ bg = .int .i64 (ahN S d : Nat) ∧ wr.ownsRow w.heap.size 32 6 l T.length (tokCells T) ∧ Below w.heap.size w wr ∧ (T = [] → l = .slice none 0 0) ∧ (k < s.size → 4 < startN (byS S k)) ∧ (T ++ (rdF fin S k).1, (rdF fin S k).2) = R) (fun l ln bg dn i wr => s.size - (intOf i).toNat)
  case atStart => exact ⟨k0, 0, [], a2, Nat.zero_le _, Nat.zero_le _, rfl, rfl, rfl, rfl, World.ownsRow_nil _ _ _ _, Below.refl _ _, fun _ => rfl, HA3.out, by rw [← HI0.out]; rfl⟩
  case round =>
    clear HA3 HI0 a2
    obtain ⟨k, d, T, hk, hdk, hTk, rfl, rfl, rfl, rfl, own, hB, hnil, hs4, hi0⟩ := hrel
    have HI := hideT hi0
    have HN := hideT hnil
    have H4 := hideT hs4
    clear hi0 hnil hs4
    obtain ⟨a0, cp, ev⟩ := own_sl own
    subst ev
    by_cases hlt : k < s.size
    · have hki : ((k : Int) < (s.size : Int)) := by omega
      have hkl : k < S.length := by rw [← HL.out]; exact hlt
      have GL := hideT (fun W => look_is s S HSS.out k fin W hsz hlt)
      have hst := look_step hkl (H4.out hlt)
      rcases hX : lookP S k with ⟨kk, t, e, self⟩ | code | x
      · rw [hX] at GL hst
        clear hX
        by_cases ho : self = false ∧ e = s.size ∧ fin = false
        · obtain ⟨o1, o2, o3⟩ := ho
          subst o1
          subst o3
          rw [seenV_open o2] at GL
          unfold opV at GL
          have hop := rdF_open hst (by rw [← HL.out]; exact o2)
          have HOP := hideT hop
          clear hop o2 hst hkl
          have HRR := hideT (show R = (T, 0, (k : Int)) by rw [← HI.out, HOP.out]; simp)
          clear HI
          go_wp2_with fail
          refine (GL.out _).mono ?_
          rintro e_ w1 ⟨rfl, b1⟩
          clear GL
          have b2 := below_alloc (w := w1) (.cells #[.int .i64 1, .int .i64 0, .string ⟨#[]⟩, .int .i64 0, .int .i64 0, .int .i64 0] 92)
          have q8 := Blk.new w1 #[.int .i64 1, .int .i64 0, .string ⟨#[]⟩, .int .i64 0, .int .i64 0, .int .i64 0] 92
          have bb := b1.trans (b2.mono b1.size)
          have hw18 : wr.heap.size ≤ w1.heap.size := b1.size
          have hvb := fun g hg => (own_lt own (g := g) hg).2
          replace own := own_kp own (Kp.of (X := fun _ => False) bb) (fun _ _ c => c)
          replace hB := hB.trans (bb.mono hB.size)
          have y0 := q8.cell 0
          have y1 := q8.cell 1
          have y2 := q8.cell 2
          have y3 := q8.cell 3
          have y4 := q8.cell 4
          have y5 := q8.cell 5
          simp only [List.getElem?_toArray, List.getElem?_cons_zero, List.getElem?_cons_succ] at y0 y1 y2 y3 y4 y5
          go_wp2
          refine bodyPost_ret (v := .tuple #[.slice a0 T.length cp, .int .i64 (0), .int .i64 ((k : Int))]) (by rw [results_ttt rfl]; go_simp) rfl ?_
          rw [HRR.out]
          exact ⟨_, rfl, own, hB, HN.out⟩
        · rw [seenV_whole ho] at GL
          unfold whV at GL
          have htk := rdF_tok (fin := fin) hst (by rw [← HL.out]; exact ho)
          obtain ⟨e1, e2, e3, _, _⟩ := hst
          rw [← HL.out] at e2
          obtain ⟨g1, g2, g3, _⟩ := gapE_spec S 3 e (Or.inl rfl) (by rw [← HL.out]; exact e2)
          rw [← HL.out] at g2 g3
          have GG := hideT (fun W => rgap_is s S HSS.out e W hsz e2)
          have hnx : (T ++ [tokAt S kk t k e] ++ (rdF fin S (gapE S 3 e)).1, (rdF fin S (gapE S 3 e)).2) = R := by rw [← HI.out, rdF_gap fin (by rw [← HL.out]; exact e2), htk]; simp
          have HNX := hideT hnx
          clear hnx htk HI ho hkl
          generalize gapE S 3 e = k2 at GG g1 g2 g3 HNX
          have HG3 := hideT g3
          clear g3
          go_wp2_with fail
          refine (GL.out _).mono ?_
          rintro e_ w1 ⟨rfl, b1⟩
          clear GL
          have b2 := below_alloc (w := w1) (.cells #[.int .i64 0, .int .i64 kk, .string t, .int .i64 e, .int .i64 0, .int .i64 0] 92)
          have q8 := Blk.new w1 #[.int .i64 0, .int .i64 kk, .string t, .int .i64 e, .int .i64 0, .int .i64 0] 92
          have bb := b1.trans (b2.mono b1.size)
          have hw18 : wr.heap.size ≤ w1.heap.size := b1.size
          have hvb := fun g hg => (own_lt own (g := g) hg).2
          replace own := own_kp own (Kp.of (X := fun _ => False) bb) (fun _ _ c => c)
          replace hB := hB.trans (bb.mono hB.size)
          have y0 := q8.cell 0
          have y1 := q8.cell 1
          have y2 := q8.cell 2
          have y3 := q8.cell 3
          have y4 := q8.cell 4
          have y5 := q8.cell 5
          simp only [List.getElem?_toArray, List.getElem?_cons_zero, List.getElem?_cons_succ] at y0 y1 y2 y3 y4 y5
          go_wp2_with fail
          go_loop [8, 9, 10] (fun ln bg dn => ∃ d2 : Nat, d2 ≤ k ∧ dn = .int .i64 d2 ∧ ln = .int .i64 ((nlN S d2 : Int) + 1) ∧ bg = .int .i64 (ahN S d2 : Nat)) (fun ln bg dn => k - (intOf dn).toNat)
          case atStart => exact ⟨d, hdk, rfl, rfl, rfl⟩
          case round =>
            obtain ⟨d2, hd2, rfl, rfl, rfl⟩ := hrel
            have hnl := nlN_le S d2
            have hal := ahN_le S d2
            by_cases hdl : d2 < k
            · have hdi : ((d2 : Int) < (k : Int)) := by omega
              have hds : d2 < s.size := by omega
              have hb := byt_of hds
              have hyd := HY.out d2 hds
              by_cases h10 : byt s d2 = 10
              · have x10 : (((s[d2]'hds).toNat : Int) == 10) = true := by rw [← hb, h10]; rfl
                have z1 : (nlN S (d2 + 1) : Int) = (nlN S d2 : Int) + 1 := by rw [show nlN S (d2 + 1) = nlN S d2 + 1 by simp only [nlN]; rw [hyd, if_pos h10]]; omega
                have z2 : ahN S (d2 + 1) = d2 + 1 := by simp only [ahN]; rw [hyd, if_pos h10]
                have HZ := hideT (And.intro z1 z2)
                clear z1 z2 h10 hb hyd
                go_wp2
                go_round
                case rel => exact ⟨d2 + 1, by omega, by go_num, by rw [HZ.out.1], by rw [HZ.out.2]; go_num⟩
                case measure => simp [intOf]; omega
              · have x10 : (((s[d2]'hds).toNat : Int) == 10) = false := by rw [← hb, beq_eq_false_iff_ne]; omega
                have z1 : nlN S (d2 + 1) = nlN S d2 := by simp only [nlN]; rw [hyd, if_neg h10]
                have z2 : ahN S (d2 + 1) = ahN S d2 := by simp only [ahN]; rw [hyd, if_neg h10]
                have HZ := hideT (And.intro z1 z2)
                clear z1 z2 h10 hb hyd
                go_wp2
                go_round
                case rel => exact ⟨d2 + 1, by omega, by go_num, by rw [HZ.out.1], by rw [HZ.out.2]⟩
                case measure => simp [intOf]; omega
            · have hdi : ¬ ((d2 : Int) < (k : Int)) := by omega
              have ed : d2 = k := by omega
              subst ed
              generalize (w1.alloc (.cells #[.int .i64 0, .int .i64 kk, .string t, .int .i64 e, .int .i64 0, .int .i64 0] 92)) = W2 at own hB q8 bb b2 y0 y1 y2 y3 y4 y5 ⊢
              obtain ⟨wx, hwx⟩ : ∃ wx, W2.alloc (.cells #[.int .i64 kk, .string t, .int .i64 d2, .int .i64 e, .int .i64 ((nlN S d2 : Int) + 1), .int .i64 ((d2 : Int) - (ahN S d2 : Int) + 1)] 32) = wx := ⟨_, rfl⟩
              have hnew := heap_alloc_new W2 (.cells #[.int .i64 kk, .string t, .int .i64 d2, .int .i64 e, .int .i64 ((nlN S d2 : Int) + 1), .int .i64 ((d2 : Int) - (ahN S d2 : Int) + 1)] 32)
              have b3 := below_alloc (w := W2) (.cells #[.int .i64 kk, .string t, .int .i64 d2, .int .i64 e, .int .i64 ((nlN S d2 : Int) + 1), .int .i64 ((d2 : Int) - (ahN S d2 : Int) + 1)] 32)
              rw [hwx] at hnew b3
              have own2 := own_kp own (Kp.of (X := fun _ => False) b3) (fun _ _ c => c)
              have hk2 : T.length + 1 ≤ maxLen := by simp only [maxLen]; omega
              have hbl2 : (T.length + 1) * 56 ≤ 140737488355328 := by omega
              have hbB : w.heap.size ≤ wx.heap.size := Nat.le_trans hB.size b3.size
              obtain ⟨i0, hi0, hz0, hz1, hz2⟩ := info_parts info_Tok
              go_wp2_with (at_builtin; (try rw [hwx]); (refine wpList_append_lies _ (by rfl) _ _ _ (by rfl) w.heap.size 32 i0 _ 6 56 Tryd.underlying69 hi0 hz0 hz1 hz2 rfl (by omega) (.slice a0 T.length cp) T.length (tokCells T) (by rfl) own2 ⟨W2.heap.size, 0, none⟩ 1 1 [.int .i64 kk, .string t, .int .i64 d2, .int .i64 e, .int .i64 ((nlN S d2 : Int) + 1), .int .i64 ((d2 : Int) - (ahN S d2 : Int) + 1)] (by rfl) (by rfl) (World.news_of_block (cs := #[.int .i64 kk, .string t, .int .i64 d2, .int .i64 e, .int .i64 ((nlN S d2 : Int) + 1), .int .i64 ((d2 : Int) - (ahN S d2 : Int) + 1)]) (t := 32) (fr := (0, 0)) hnew) (by simp [Value.oneCell']) (by omega) hk2 hbl2 hbB wx.heap.size rfl ?_))
              intro gb cap wd hown4 hgrow hat hlt4
              have kg := Kp.grown hgrow (fun k e => e)
              have q9 := kg.blk (q8.later b3) (fun c => by have := hvb _ c; omega)
              have z3 := q9.cell 3
              simp only [List.getElem?_toArray, List.getElem?_cons_zero, List.getElem?_cons_succ] at z3
              have hlo := fun g hg => (own_lt own (g := g) hg).1
              replace hB := (hB.trans (b3.mono hB.size)).trans (kg.below hbB (fun k hk c => by have := hlo _ c; omega))
              have hcol : ((d2 : Int) - (ahN S d2 : Int) + 1) = ((d2 - ahN S d2 : Nat) : Int) + 1 := by omega
              have own3 : wd.ownsRow w.heap.size 32 6 (.slice (some ⟨gb, 0, none⟩) (T.length + 1) cap) (T ++ [tokAt S kk t d2 e]).length (tokCells (T ++ [tokAt S kk t d2 e])) := by
                rw [List.length_append, tokCells_app]
                rw [hcol] at hown4
                exact hown4
              clear kg hown4 hgrow hat own2 own hk2 hbl2 hbB hnew b3 hwx hi0 hz0 hz1 hz2 q8 q9 bb b2 hvb hlo b1 y0 y1 y2 y3 y4 y5
              go_wp2_with fail
              refine (GG.out _).mono ?_
              rintro e_ w5 ⟨rfl, hw5⟩
              rw [hw5]
              clear hw5 w5
              go_wp2
              go_roundw
              case rel => exact ⟨k2, d2, T ++ [tokAt S kk t d2 e], g2, by omega, by rw [List.length_append]; simp only [List.length_cons, List.length_nil]; omega, rfl, rfl, rfl, rfl, own3, hB, fun c => absurd (List.append_eq_nil_iff.1 c).2 (by simp), HG3.out, HNX.out⟩
              case measure => simp [intOf]; omega
      · rw [hX] at GL hst
        clear hX
        obtain ⟨p1, p2⟩ := rdF_half hst
        clear hst hkl
        cases fin
        · have HP := hideT p2
          clear p1 p2
          have eV : seenV s.size k false (.half code) = opV := rfl
          rw [eV] at GL
          unfold opV at GL
          clear eV
          have HRR := hideT (show R = (T, 0, (k : Int)) by rw [← HI.out, HP.out]; simp)
          clear HI
          go_wp2_with fail
          refine (GL.out _).mono ?_
          rintro e_ w1 ⟨rfl, b1⟩
          clear GL
          have b2 := below_alloc (w := w1) (.cells #[.int .i64 1, .int .i64 0, .string ⟨#[]⟩, .int .i64 0, .int .i64 0, .int .i64 0] 92)
          have q8 := Blk.new w1 #[.int .i64 1, .int .i64 0, .string ⟨#[]⟩, .int .i64 0, .int .i64 0, .int .i64 0] 92
          have bb := b1.trans (b2.mono b1.size)
          have hw18 : wr.heap.size ≤ w1.heap.size := b1.size
          have hvb := fun g hg => (own_lt own (g := g) hg).2
          replace own := own_kp own (Kp.of (X := fun _ => False) bb) (fun _ _ c => c)
          replace hB := hB.trans (bb.mono hB.size)
          have y0 := q8.cell 0
          have y1 := q8.cell 1
          have y2 := q8.cell 2
          have y3 := q8.cell 3
          have y4 := q8.cell 4
          have y5 := q8.cell 5
          simp only [List.getElem?_toArray, List.getElem?_cons_zero, List.getElem?_cons_succ] at y0 y1 y2 y3 y4 y5
          go_wp2
          refine bodyPost_ret (v := .tuple #[.slice a0 T.length cp, .int .i64 (0), .int .i64 ((k : Int))]) (by rw [results_ttt rfl]; go_simp) rfl ?_
          rw [HRR.out]
          exact ⟨_, rfl, own, hB, HN.out⟩
        · have HP := hideT p1
          clear p1 p2
          have eV : seenV s.size k true (.half code) = wrV code k := rfl
          rw [eV] at GL
          unfold wrV at GL
          clear eV
          have HRR := hideT (show R = (T, code, (k : Int)) by rw [← HI.out, HP.out]; simp)
          clear HI
          go_wp2_with fail
          refine (GL.out _).mono ?_
          rintro e_ w1 ⟨rfl, b1⟩
          clear GL
          have b2 := below_alloc (w := w1) (.cells #[.int .i64 2, .int .i64 0, .string ⟨#[]⟩, .int .i64 0, .int .i64 code, .int .i64 k] 92)
          have q8 := Blk.new w1 #[.int .i64 2, .int .i64 0, .string ⟨#[]⟩, .int .i64 0, .int .i64 code, .int .i64 k] 92
          have bb := b1.trans (b2.mono b1.size)
          have hw18 : wr.heap.size ≤ w1.heap.size := b1.size
          have hvb := fun g hg => (own_lt own (g := g) hg).2
          replace own := own_kp own (Kp.of (X := fun _ => False) bb) (fun _ _ c => c)
          replace hB := hB.trans (bb.mono hB.size)
          have y0 := q8.cell 0
          have y1 := q8.cell 1
          have y2 := q8.cell 2
          have y3 := q8.cell 3
          have y4 := q8.cell 4
          have y5 := q8.cell 5
          simp only [List.getElem?_toArray, List.getElem?_cons_zero, List.getElem?_cons_succ] at y0 y1 y2 y3 y4 y5
          go_wp2_with fail
          go_quiet (fail)
          go_wp2
          refine bodyPost_ret (v := .tuple #[.slice a0 T.length cp, .int .i64 (code), .int .i64 ((k : Int))]) (by rw [results_ttt rfl]; go_simp) rfl ?_
          rw [HRR.out]
          exact ⟨_, rfl, own, hB.trans ⟨rfl, rfl, rfl, Nat.le_refl _, fun _ _ => rfl⟩, HN.out⟩
      · rw [hX] at GL hst
        clear hX
        have HP := hideT (rdF_bad fin hst)
        clear hst hkl
        have eV : seenV s.size k fin (.bad x) = wrV 120 x := rfl
        rw [eV] at GL
        unfold wrV at GL
        clear eV
        have HRR := hideT (show R = (T, 120, (x : Int)) by rw [← HI.out, HP.out]; simp)
        clear HI
        go_wp2_with fail
        refine (GL.out _).mono ?_
        rintro e_ w1 ⟨rfl, b1⟩
        clear GL
        have b2 := below_alloc (w := w1) (.cells #[.int .i64 2, .int .i64 0, .string ⟨#[]⟩, .int .i64 0, .int .i64 120, .int .i64 x] 92)
        have q8 := Blk.new w1 #[.int .i64 2, .int .i64 0, .string ⟨#[]⟩, .int .i64 0, .int .i64 120, .int .i64 x] 92
        have bb := b1.trans (b2.mono b1.size)
        have hw18 : wr.heap.size ≤ w1.heap.size := b1.size
        have hvb := fun g hg => (own_lt own (g := g) hg).2
        replace own := own_kp own (Kp.of (X := fun _ => False) bb) (fun _ _ c => c)
        replace hB := hB.trans (bb.mono hB.size)
        have y0 := q8.cell 0
        have y1 := q8.cell 1
        have y2 := q8.cell 2
        have y3 := q8.cell 3
        have y4 := q8.cell 4
        have y5 := q8.cell 5
        simp only [List.getElem?_toArray, List.getElem?_cons_zero, List.getElem?_cons_succ] at y0 y1 y2 y3 y4 y5
        go_wp2_with fail
        go_quiet (fail)
        go_wp2
        refine bodyPost_ret (v := .tuple #[.slice a0 T.length cp, .int .i64 (120), .int .i64 ((x : Int))]) (by rw [results_ttt rfl]; go_simp) rfl ?_
        rw [HRR.out]
        exact ⟨_, rfl, own, hB.trans ⟨rfl, rfl, rfl, Nat.le_refl _, fun _ _ => rfl⟩, HN.out⟩
    · have hki : ¬ ((k : Int) < (s.size : Int)) := by omega
      have ek : k = S.length := by rw [← HL.out]; omega
      have HRR := hideT (show R = (T, 0, (k : Int)) by rw [← HI.out, ek, rdF_end]; simp)
      clear HI ek
      go_wp2
      refine bodyPost_ret (v := .tuple #[.slice a0 T.length cp, .int .i64 0, .int .i64 (k : Int)]) (by rw [results_ttt rfl]; go_simp) rfl ?_
      rw [HRR.out]
      exact ⟨_, rfl, own, hB, HN.out⟩

end Go.Proofs.YtibeiggedmabkaaDoor

namespace Go.Proofs.YtibeiggedmabkaaDoor
open Go.RowKit
set_option linter.unusedVariables false
set_option linter.unusedSimpArgs false
/-- what Whole makes of what was built, and of what was wrong with the tokens -/
def wholeB (fin : Bool) (x : BR) (e pl : Int) : BS × Int × Int :=
  match x with
  | .bad s c q => (s, c, q)
  | .ok s => if e ≠ 0 then (s, e, pl) else if fin = true ∧ s.opn ≠ [] then (s, 131, s.first) else (s, 0, 0)
theorem wholeB_open (s : BS) (pl : Int) (ho : s.opn ≠ []) : wholeB true (.ok s) 0 pl = (s, 131, s.first) := by simp [wholeB, ho]
theorem rdF_zero2 (fin : Bool) (S : List UInt8) : rdF fin S 0 = rdO fin S.length (feedP pI S) := by
  unfold rdF
  rw [frs_pI, List.drop_zero]
theorem rdF_len (fin : Bool) (S : List UInt8) : (rdF fin S 0).1.length ≤ S.length * 2 + 1 := by
  rw [rdF_zero2]
  have h := feed_len2 pI S
  rcases hf : feedP pI S with ⟨ts, out⟩
  rw [hf] at h
  replace h : ts.length ≤ S.length * 2 := h
  cases out with
  | bad B L C => simp only [rdO]; omega
  | ok q =>
    have h2 := end_len q
    cases fin
    · simp only [rdO, Bool.false_eq_true, if_false]; omega
    · simp only [rdO, if_true, List.length_append]; omega
/-- all of a text: what Read tells -/
theorem whole_true (S : List UInt8) : ((wholeB true (buildB b0 (rdF true S 0).1) (rdF true S 0).2.1 (rdF true S 0).2.2).1.nodes, (wholeB true (buildB b0 (rdF true S 0).1) (rdF true S 0).2.1 (rdF true S 0).2.2).2) = readF S := by
  rw [rdF_zero2]
  unfold readF
  rcases feedP pI S with ⟨ts, o⟩
  cases o with
  | bad B L C =>
    simp only [rdO]
    rcases hb : buildB b0 ts with s | ⟨s, c, p⟩
    · simp [wholeB]
    · rfl
  | ok q =>
    simp only [rdO, if_true]
    rw [buildB_app]
    rcases hb : buildB b0 ts with s | ⟨s, c, p⟩
    · simp only
      rcases hc : buildB s (endP q).1 with s2 | ⟨s2, c, p⟩
      · simp only [wholeB]
        by_cases h : (endP q).2 = 0
        · by_cases h2 : s2.opn = []
          · simp [h, h2]
          · simp [h, h2]
        · simp [h]
      · rfl
    · rfl
/-- a text so far: what Feed tells of it -/
theorem whole_false (S : List UInt8) : (wholeB false (buildB b0 (rdF false S 0).1) (rdF false S 0).2.1 (rdF false S 0).2.2).1.nodes = (feedF rs0 S).1 ∧ (wholeB false (buildB b0 (rdF false S 0).1) (rdF false S 0).2.1 (rdF false S 0).2.2).2.1 = (feedF rs0 S).2.1 ∧
    (match (feedF rs0 S).2.2 with
      | .go o p => (wholeB false (buildB b0 (rdF false S 0).1) (rdF false S 0).2.1 (rdF false S 0).2.2).1.opn = o
      | .over d e q => (wholeB false (buildB b0 (rdF false S 0).1) (rdF false S 0).2.1 (rdF false S 0).2.2).1.opn.length = d ∧ (wholeB false (buildB b0 (rdF false S 0).1) (rdF false S 0).2.1 (rdF false S 0).2.2).2 = (e, q)) := by
  rw [rdF_zero2]
  simp only [rs0, feedF]
  rcases feedP pI S with ⟨ts, o⟩
  cases o with
  | bad B L C =>
    simp only [rdO, b0]
    rcases hb : buildB ⟨[], []⟩ ts with s | ⟨s, c, p⟩
    · simp [wholeB]
    · simp [wholeB]
  | ok q =>
    simp only [rdO, Bool.false_eq_true, if_false, b0]
    rcases hb : buildB ⟨[], []⟩ ts with s | ⟨s, c, p⟩
    · simp [wholeB]
    · simp [wholeB]
/-- a Built in memory, from base on -/
def BuiltW (w w0 : World) (s : BS) (code pl : Int) (r : Ending) : Prop := ∃ base, w0.heap.size ≤ base ∧ BuiltA w base s code pl r
theorem RelB.openLen {lv : List Lv} {x0 : Lv} {s : BS} (h : RelB (lv ++ [x0]) s) : lv.length = s.opn.length := by
  have := h.len
  simp only [List.length_append, List.length_cons, List.length_nil] at this
  omega
/-- the outermost list that is open -/
theorem RelB.firstR {lv : List Lv} {x0 : Lv} {s : BS} (h : RelB (lv ++ [x0]) s) (hs : s.opn ≠ []) : ∃ (y : Lv) (rest : List (Tok × Value)), lsOf lv = (y.t, y.v) :: rest ∧ y.t.b = s.first := by
  obtain ⟨z, y, rest, e, e2⟩ := h.firstL hs
  refine ⟨y, rest, ?_, e2⟩
  have e3 : lsOf (lv ++ [x0]) = (x0.t, x0.v) :: lsOf lv := by simp [lsOf]
  rw [e3] at e
  injection e
theorem RelB.nodesR {lv : List Lv} {x0 : Lv} {s : BS} (h : RelB (lv ++ [x0]) s) : x0.N = s.nodes := by
  obtain ⟨ini, x, e, e2, _⟩ := h.last
  have : x = x0 := by
    have := congrArg List.getLast? e
    simpa using this.symm
  rw [← this]; exact e2
set_option maxHeartbeats 16000000 in
set_option maxRecDepth 100000 in
theorem whole_is (s : ByteArray) (S : List UInt8) (hS : s.data.toList = S) (fin : Bool) (w : World) (hsz : s.size ≤ 400000000) : Calls Tryd.prog 21 #[.string s, .bool fin] w fun r w' => BuiltW w' w (wholeB fin (buildB b0 (rdF fin S 0).1) (rdF fin S 0).2.1 (rdF fin S 0).2.2).1 (wholeB fin (buildB b0 (rdF fin S 0).1) (rdF fin S 0).2.1 (rdF fin S 0).2.2).2.1 (wholeB fin (buildB b0 (rdF fin S 0).1) (rdF fin S 0).2.1 (rdF fin S 0).2.2).2.2 r ∧ Below w.heap.size w w' := by
  have hlen : (rdF fin S 0).1.length ≤ 900000000 := by have h := rdF_len fin S; have h2 : S.length = s.size := (by rw [← hS, Array.length_toList]; rfl); omega
  have b4 := below_alloc (w := w) (.cells #[.slice none 0 0, .slice none 0 0, .int .i64 0, .int .i64 0] 54)
  have q4 := Blk.new w #[.slice none 0 0, .slice none 0 0, .int .i64 0, .int .i64 0] 54
  have GR := hideT (rread_is s S hS fin (w.alloc (.cells #[.slice none 0 0, .slice none 0 0, .int .i64 0, .int .i64 0] 54)) (by omega))
  obtain ⟨R, hR⟩ : ∃ R, rdF fin S 0 = R := ⟨_, rfl⟩
  rw [hR] at GR hlen ⊢
  obtain ⟨T, e, pl⟩ := R
  simp only at GR hlen ⊢
  clear hR
  go_enter Tryd.func21, Tryd.ntmps21
  go_upto_region 1 with fail
  generalize w.alloc (.cells #[.slice none 0 0, .slice none 0 0, .int .i64 0, .int .i64 0] 54) = W at b4 q4 GR ⊢
  go_wp2_with fail
  refine GR.out.mono ?_
  rintro r w1 ⟨v, rfl, own, b1, _⟩
  clear GR
  replace q4 := q4.later b1
  have hB := b4.trans (b1.mono b4.size)
  clear b4 b1
  have GB := hideT (build_is v T _ w1 own hlen)
  obtain ⟨va, vc, ev⟩ := own_sl own
  subst ev
  clear own
  have hlt4 := q4.lt
  have hsw := hB.size
  go_wp2_with fail
  refine GB.out.mono ?_
  rintro r w2 ⟨hE, b2⟩
  clear GB
  replace q4 := q4.later b2
  replace hB := hB.trans (b2.mono hB.size)
  have hs2 := b2.size
  clear b2
  rcases hbb : buildB b0 T with s2 | ⟨s2, cc, qq⟩
  · rw [hbb] at hE
    have HBB := hideT hbb
    clear hbb
    obtain ⟨ov, lv, x0, P, rfl, bd, hrl, hkl⟩ := hE
    obtain ⟨oa, oc, eo⟩ := own_sl bd.own
    subst eo
    obtain ⟨na, nc, en⟩ := own_sl (bd.ok x0 (by simp))
    rw [en]
    have b8 := below_alloc (w := w2) (.cells #[.slice na x0.K.length nc, .slice oa lv.length oc, .int .i64 0, .int .i64 0] 54)
    have q8 := Blk.new w2 #[.slice na x0.K.length nc, .slice oa lv.length oc, .int .i64 0, .int .i64 0] 54
    replace q4 := q4.later b8
    have HBD := hideT (And.intro bd (And.intro hrl hkl))
    clear bd hrl hkl
    go_upto_region 3 with fail
    generalize w2.alloc (.cells #[.slice na x0.K.length nc, .slice oa lv.length oc, .int .i64 0, .int .i64 0] 54) = W8 at b8 q8 q4 ⊢
    obtain ⟨c8, hc8⟩ : ∃ c8, w2.heap.size = c8 := ⟨_, rfl⟩
    have h48 : w.heap.size < c8 := by omega
    have HB8 := hideT b8
    rw [hc8] at q8 ⊢
    have HC8 := hideT hc8
    clear hc8 b8
    have y1 := q8.cell 1
    have y2 := q8.cell 2
    have y3 := q8.cell 3
    simp only [List.getElem?_toArray, List.getElem?_cons_zero, List.getElem?_cons_succ] at y1 y2 y3
    by_cases he : e = 0
    · have xe : (e != 0) = false := by rw [he]; rfl
      have hol := HBD.out.2.1.openLen
      by_cases ho : fin = true ∧ s2.opn ≠ []
      · obtain ⟨hf, ho2⟩ := ho
        subst hf
        have xo : (0 : Int) < (lv.length : Int) := by have := List.length_pos_iff.2 ho2; omega
        have xo2 : 0 < lv.length := by omega
        obtain ⟨yy, rest, e8, e9⟩ := HBD.out.2.1.firstR ho2
        obtain ⟨gl, oc2, eo2, hcc⟩ := own_form HBD.out.1.own (by omega)
        injection eo2 with eo2 _ eo3
        subst eo2
        subst eo3
        have u3 : W8.cell? ⟨gl, 2, none⟩ = some (.int .i64 s2.first) := by
          have h := below_cell HB8.out (v := .int .i64 s2.first) (show w2.cell? ⟨gl, 2, none⟩ = _ by rw [HBD.out.1.own.cellAt 2 (by omega), e8, ← e9]; simp [nvCells, Tok.cells])
          exact h
        obtain ⟨ff, hff⟩ : ∃ ff, s2.first = ff := ⟨_, rfl⟩
        rw [hff] at u3
        have HW := hideT (show wholeB true (buildB b0 T) e pl = (s2, 131, ff) by rw [HBB.out, he, wholeB_open s2 pl ho2, hff])
        clear hff e8 e9 ho2 hol he
        have hgc : gl ≠ c8 := fun c => by have := (own_lt HBD.out.1.own (g := gl) rfl).2; have := HC8.out; omega
        go_wp2_with fail
        have bz := HB8.out
        have hc8 := HC8.out
        have HC9 := hideT hc8
        clear hc8
        have bD : Below W8.heap.size W8 W8.drew := (Below.refl _ _).drew
        have ky1 := below_cell bD y1
        have ku3 := below_cell bD u3
        replace bz := bz.trans (bD.mono bz.size)
        replace q8 := q8.later bD
        replace q4 := q4.later bD
        refine wp_region_held_drew (S := fun w' => w'.cell? ⟨c8, 1, none⟩ = some (.slice (some ⟨gl, 0, none⟩) lv.length oc) ∧ w'.cell? ⟨gl, 2, none⟩ = some (.int .i64 ff)) (by kernel_rfl) ⟨ky1, ku3⟩ (fun hHeld => ?_)
        clear ky1 ku3
        generalize W8.drew = w8 at bD bz q8 q4 hHeld ⊢
        clear bD y1 y2 y3 u3
        refine take' 0 (v := ?_) rfl (by kernel_rfl) (by kernel_rfl) (by kernel_rfl) (fun _ _ _ h => h) (Or.inl ⟨by rfl, ?_⟩) (by assumption) ?_
        rotate_left
        · intro w9 hSw
          go_simp
          first | done | with_reducible rfl
        simp only [Act.put, List.setIfInBounds_toArray, List.set_cons_zero, List.set_cons_succ]
        refine take' 1 (v := ?_) rfl (by kernel_rfl) (by kernel_rfl) (by kernel_rfl) (fun _ _ _ h => h) (Or.inl ⟨by rfl, ?_⟩) (by assumption) ?_
        rotate_left
        · intro w9 hSw
          go_simp
          first | done | with_reducible rfl
        simp only [Act.put, List.setIfInBounds_toArray, List.set_cons_zero, List.set_cons_succ]
        refine take' 2 (v := ?_) rfl (by kernel_rfl) (by kernel_rfl) (by kernel_rfl) (fun _ _ _ h => h) (Or.inl ⟨by rfl, ?_⟩) (by assumption) ?_
        rotate_left
        · intro w9 hSw
          go_simp
          first | done | with_reducible rfl
        simp only [Act.put, List.setIfInBounds_toArray, List.set_cons_zero, List.set_cons_succ]
        refine take' 3 (v := ?_) rfl (by kernel_rfl) (by kernel_rfl) (by kernel_rfl) (fun _ _ _ h => h) (Or.inl ⟨by rfl, ?_⟩) (by assumption) ?_
        rotate_left
        · intro w9 hSw
          go_simp
          first | done | with_reducible rfl
        simp only [Act.put, List.setIfInBounds_toArray, List.set_cons_zero, List.set_cons_succ]
        refine take' 4 (v := ?_) rfl (by kernel_rfl) (by kernel_rfl) (by kernel_rfl) (fun _ _ _ h => h) (Or.inl ⟨by rfl, ?_⟩) (by assumption) ?_
        rotate_left
        · intro w9 hSw
          go_simp
          first | done | with_reducible rfl
        simp only [Act.put, List.setIfInBounds_toArray, List.set_cons_zero, List.set_cons_succ]
        refine take' 5 (v := ?_) rfl (by kernel_rfl) (by kernel_rfl) (by kernel_rfl) (fun _ _ _ h => h) (Or.inl ⟨by rfl, ?_⟩) (by assumption) ?_
        rotate_left
        · intro w9 hSw
          go_simp
          first | done | with_reducible rfl
        simp only [Act.put, List.setIfInBounds_toArray, List.set_cons_zero, List.set_cons_succ]
        refine take' 6 (v := ?_) rfl (by kernel_rfl) (by kernel_rfl) (by kernel_rfl) (fun _ _ _ h => h) (Or.inl ⟨by rfl, ?_⟩) (by assumption) ?_
        rotate_left
        · intro w9 hSw
          go_simp
          first | done | with_reducible rfl
        simp only [Act.put, List.setIfInBounds_toArray, List.set_cons_zero, List.set_cons_succ]
        refine wpAnyH_ready (rs := [7]) (by kernel_rfl) (by simp) ?_
        refine cons' rfl (fun KK hKK => ?_)
        have fz := fun o => q8.frozen o
        have t1 := q8.cell 2
        simp only [List.getElem?_toArray, List.getElem?_cons_zero, List.getElem?_cons_succ] at t1
        go_simp
        clear fz t1
        obtain ⟨ks, q9⟩ := q8.set (o := 2) (.int .i64 131)
        have q10 : Blk (w8.setCell ⟨c8, 2, none⟩ (.int .i64 131)) c8 #[.slice na x0.K.length nc, .slice (some ⟨gl, 0, none⟩) lv.length oc, .int .i64 131, .int .i64 0] 54 := by simpa using q9
        have v1 := q10.cell 1
        simp only [List.getElem?_toArray, List.getElem?_cons_zero, List.getElem?_cons_succ] at v1
        have hH2 := (⟨v1, ks.cell hgc hHeld.2⟩ : _ ∧ _)
        clear v1 q8 q9
        have q8 := q10
        clear q10
        replace q4 := q4.ch ks (by omega)
        replace bz := bz.trans (ks.below (B := w2.heap.size) (by have := HC9.out; omega))
        clear ks
        generalize w8.setCell ⟨c8, 2, none⟩ (.int .i64 131) = w9 at hH2 q8 q4 bz ⊢
        refine hKK.out _ _ hH2 ?_
        clear hHeld
        intro hHeld
        clear hKK KK
        try simp only [Act.put, List.setIfInBounds_toArray, List.set_cons_zero, List.set_cons_succ]
        clear hH2
        refine take' 8 (v := ?_) rfl (by kernel_rfl) (by kernel_rfl) (by kernel_rfl) (fun _ _ _ h => h) (Or.inl ⟨by rfl, ?_⟩) (by assumption) ?_
        rotate_left
        · intro w9 hSw
          go_simp
          first | done | with_reducible rfl
        simp only [Act.put, List.setIfInBounds_toArray, List.set_cons_zero, List.set_cons_succ]
        refine wpAnyH_ready (rs := [9]) (by kernel_rfl) (by simp) ?_
        refine cons' rfl (fun KK hKK => ?_)
        have fz := fun o => q8.frozen o
        have t1 := q8.cell 3
        simp only [List.getElem?_toArray, List.getElem?_cons_zero, List.getElem?_cons_succ] at t1
        go_simp
        clear fz t1
        obtain ⟨ks, q9⟩ := q8.set (o := 3) (.int .i64 ff)
        have q10 : Blk (w9.setCell ⟨c8, 3, none⟩ (.int .i64 ff)) c8 #[.slice na x0.K.length nc, .slice (some ⟨gl, 0, none⟩) lv.length oc, .int .i64 131, .int .i64 ff] 54 := by simpa using q9
        have v1 := q10.cell 1
        simp only [List.getElem?_toArray, List.getElem?_cons_zero, List.getElem?_cons_succ] at v1
        have hH2 := (⟨v1, ks.cell hgc hHeld.2⟩ : _ ∧ _)
        clear v1 q8 q9
        have q8 := q10
        clear q10
        replace q4 := q4.ch ks (by omega)
        replace bz := bz.trans (ks.below (B := w2.heap.size) (by have := HC9.out; omega))
        clear ks
        generalize w9.setCell ⟨c8, 3, none⟩ (.int .i64 ff) = wz at hH2 q8 q4 bz ⊢
        refine hKK.out _ _ hH2 ?_
        clear hHeld
        intro hHeld
        clear hKK KK
        try simp only [Act.put, List.setIfInBounds_toArray, List.set_cons_zero, List.set_cons_succ]
        clear hH2
        refine wpAnyH_done (by kernel_rfl) ?_ _
        clear hHeld
        obtain ⟨bd, hrl, hkl⟩ := HBD.out
        have hc8 := HC8.out
        have y0 := q8.cell 0
        have y1 := q8.cell 1
        have y2 := q8.cell 2
        have y3 := q8.cell 3
        have z0 := q4.cell 0
        have z1 := q4.cell 1
        have z2 := q4.cell 2
        have z3 := q4.cell 3
        simp only [List.getElem?_toArray, List.getElem?_cons_zero, List.getElem?_cons_succ] at y0 z0 y1 z1 y2 z2 y3 z3
        have fz := fun o => q4.frozen o
        go_wp2
        clear fz y0 z0 y1 z1 y2 z2 y3 z3
        obtain ⟨k9, q9⟩ := q4.set4s (.slice na x0.K.length nc) (.slice (some ⟨gl, 0, none⟩) lv.length oc) (.int .i64 131) (.int .i64 ff)
        have u0 := q9.cell 0
        have u1 := q9.cell 1
        have u2 := q9.cell 2
        have u3 := q9.cell 3
        simp only [List.getElem?_toArray, List.getElem?_cons_zero, List.getElem?_cons_succ] at u0 u1 u2 u3
        replace bd := (bd.later bz).kp (Kp.ch (X := fun i => i = w.heap.size) k9 rfl) (fun i e => Or.inl (by omega))
        replace hB := (hB.trans (bz.mono hB.size)).trans (k9.below (B := w.heap.size) (Nat.le_refl _))
        clear k9 q9
        generalize ((((wz.setCell ⟨w.heap.size, 0, none⟩ (.slice na x0.K.length nc)).setCell ⟨w.heap.size, 1, none⟩ (.slice (some ⟨gl, 0, none⟩) lv.length oc)).setCell ⟨w.heap.size, 2, none⟩ (.int .i64 131)).setCell ⟨w.heap.size, 3, none⟩ (.int .i64 ff)) = w11 at bd hB u0 u1 u2 u3 ⊢
        refine bodyPost_ret (v := .agg #[.slice na x0.K.length nc, .slice (some ⟨gl, 0, none⟩) lv.length oc, .int .i64 131, .int .i64 ff]) (by rw [results_c rfl]; go_simp) rfl ?_
        refine ⟨⟨w1.heap.size + 2, by omega, ?_⟩, hB⟩
        rw [HW.out]
        exact ⟨_, lv, x0, P, by rw [en], bd, hrl, hkl⟩
      · have HW := hideT (show wholeB fin (buildB b0 T) e pl = (s2, 0, 0) by rw [HBB.out]; simp only [wholeB]; rw [if_neg (by simpa using he), if_neg ho])
        rcases hfn : fin with _ | _
        · subst hfn
          have HW2 := hideT HW.out
          clear ho he hol HW
          go_upto_region 8 with fail
          clear y1 y2 y3
          obtain ⟨bd, hrl, hkl⟩ := HBD.out
          have bz := HB8.out
          have hc8 := HC8.out
          obtain ⟨wz, rfl⟩ : ∃ wz, wz = W8 := ⟨_, rfl⟩
          have y0 := q8.cell 0
          have y1 := q8.cell 1
          have y2 := q8.cell 2
          have y3 := q8.cell 3
          have z0 := q4.cell 0
          have z1 := q4.cell 1
          have z2 := q4.cell 2
          have z3 := q4.cell 3
          simp only [List.getElem?_toArray, List.getElem?_cons_zero, List.getElem?_cons_succ] at y0 z0 y1 z1 y2 z2 y3 z3
          have fz := fun o => q4.frozen o
          go_wp2
          clear fz y0 z0 y1 z1 y2 z2 y3 z3
          obtain ⟨k9, q9⟩ := q4.set4s (.slice na x0.K.length nc) (.slice oa lv.length oc) (.int .i64 0) (.int .i64 0)
          have u0 := q9.cell 0
          have u1 := q9.cell 1
          have u2 := q9.cell 2
          have u3 := q9.cell 3
          simp only [List.getElem?_toArray, List.getElem?_cons_zero, List.getElem?_cons_succ] at u0 u1 u2 u3
          replace bd := (bd.later bz).kp (Kp.ch (X := fun i => i = w.heap.size) k9 rfl) (fun i e => Or.inl (by omega))
          replace hB := (hB.trans (bz.mono hB.size)).trans (k9.below (B := w.heap.size) (Nat.le_refl _))
          clear k9 q9
          generalize ((((wz.setCell ⟨w.heap.size, 0, none⟩ (.slice na x0.K.length nc)).setCell ⟨w.heap.size, 1, none⟩ (.slice oa lv.length oc)).setCell ⟨w.heap.size, 2, none⟩ (.int .i64 0)).setCell ⟨w.heap.size, 3, none⟩ (.int .i64 0)) = w11 at bd hB u0 u1 u2 u3 ⊢
          refine bodyPost_ret (v := .agg #[.slice na x0.K.length nc, .slice oa lv.length oc, .int .i64 0, .int .i64 0]) (by rw [results_c rfl]; go_simp) rfl ?_
          refine ⟨⟨w1.heap.size + 2, by omega, ?_⟩, hB⟩
          rw [HW2.out]
          exact ⟨_, lv, x0, P, by rw [en], bd, hrl, hkl⟩
        · subst hfn
          have HW2 := hideT HW.out
          have xo : ¬ (0 < lv.length) := fun c => ho ⟨rfl, fun d => by rw [hol, d] at c; simp at c⟩
          clear ho he hol HW
          go_upto_region 8 with fail
          clear y1 y2 y3
          obtain ⟨bd, hrl, hkl⟩ := HBD.out
          have bz := HB8.out
          have hc8 := HC8.out
          obtain ⟨wz, rfl⟩ : ∃ wz, wz = W8 := ⟨_, rfl⟩
          have y0 := q8.cell 0
          have y1 := q8.cell 1
          have y2 := q8.cell 2
          have y3 := q8.cell 3
          have z0 := q4.cell 0
          have z1 := q4.cell 1
          have z2 := q4.cell 2
          have z3 := q4.cell 3
          simp only [List.getElem?_toArray, List.getElem?_cons_zero, List.getElem?_cons_succ] at y0 z0 y1 z1 y2 z2 y3 z3
          have fz := fun o => q4.frozen o
          go_wp2
          clear fz y0 z0 y1 z1 y2 z2 y3 z3
          obtain ⟨k9, q9⟩ := q4.set4s (.slice na x0.K.length nc) (.slice oa lv.length oc) (.int .i64 0) (.int .i64 0)
          have u0 := q9.cell 0
          have u1 := q9.cell 1
          have u2 := q9.cell 2
          have u3 := q9.cell 3
          simp only [List.getElem?_toArray, List.getElem?_cons_zero, List.getElem?_cons_succ] at u0 u1 u2 u3
          replace bd := (bd.later bz).kp (Kp.ch (X := fun i => i = w.heap.size) k9 rfl) (fun i e => Or.inl (by omega))
          replace hB := (hB.trans (bz.mono hB.size)).trans (k9.below (B := w.heap.size) (Nat.le_refl _))
          clear k9 q9
          generalize ((((wz.setCell ⟨w.heap.size, 0, none⟩ (.slice na x0.K.length nc)).setCell ⟨w.heap.size, 1, none⟩ (.slice oa lv.length oc)).setCell ⟨w.heap.size, 2, none⟩ (.int .i64 0)).setCell ⟨w.heap.size, 3, none⟩ (.int .i64 0)) = w11 at bd hB u0 u1 u2 u3 ⊢
          refine bodyPost_ret (v := .agg #[.slice na x0.K.length nc, .slice oa lv.length oc, .int .i64 0, .int .i64 0]) (by rw [results_c rfl]; go_simp) rfl ?_
          refine ⟨⟨w1.heap.size + 2, by omega, ?_⟩, hB⟩
          rw [HW2.out]
          exact ⟨_, lv, x0, P, by rw [en], bd, hrl, hkl⟩
    · have xe : (e != 0) = true := by rw [bne_iff_ne]; exact he
      have HW := hideT (show wholeB fin (buildB b0 T) e pl = (s2, e, pl) by rw [HBB.out]; simp only [wholeB]; rw [if_pos he])
      clear he
      have fz8 := fun o => q8.frozen o
      go_upto_region 8 with fail
      clear y1 y2 y3 fz8
      obtain ⟨k5, q5⟩ := q8.set (o := 2) (.int .i64 e)
      obtain ⟨k6, q6⟩ := q5.set (o := 3) (.int .i64 pl)
      have q7 : Blk ((W8.setCell ⟨c8, 2, none⟩ (.int .i64 e)).setCell ⟨c8, 3, none⟩ (.int .i64 pl)) c8 #[.slice na x0.K.length nc, .slice oa lv.length oc, .int .i64 e, .int .i64 pl] 54 := by simpa using q6
      obtain ⟨bd, hrl, hkl⟩ := HBD.out
      have hc8 := HC8.out
      have bz := (HB8.out.trans (k5.below (B := w2.heap.size) (by omega))).trans (k6.below (B := w2.heap.size) (by omega))
      replace q4 := (q4.ch k5 (by omega)).ch k6 (by omega)
      clear k5 k6 q5 q6 q8
      have q8 := q7
      clear q7
      generalize (W8.setCell ⟨c8, 2, none⟩ (.int .i64 e)).setCell ⟨c8, 3, none⟩ (.int .i64 pl) = wz at q8 q4 bz ⊢
      have y0 := q8.cell 0
      have y1 := q8.cell 1
      have y2 := q8.cell 2
      have y3 := q8.cell 3
      have z0 := q4.cell 0
      have z1 := q4.cell 1
      have z2 := q4.cell 2
      have z3 := q4.cell 3
      simp only [List.getElem?_toArray, List.getElem?_cons_zero, List.getElem?_cons_succ] at y0 z0 y1 z1 y2 z2 y3 z3
      have fz := fun o => q4.frozen o
      go_wp2
      clear fz y0 z0 y1 z1 y2 z2 y3 z3
      obtain ⟨k9, q9⟩ := q4.set4s (.slice na x0.K.length nc) (.slice oa lv.length oc) (.int .i64 e) (.int .i64 pl)
      have u0 := q9.cell 0
      have u1 := q9.cell 1
      have u2 := q9.cell 2
      have u3 := q9.cell 3
      simp only [List.getElem?_toArray, List.getElem?_cons_zero, List.getElem?_cons_succ] at u0 u1 u2 u3
      replace bd := (bd.later bz).kp (Kp.ch (X := fun i => i = w.heap.size) k9 rfl) (fun i e => Or.inl (by omega))
      replace hB := (hB.trans (bz.mono hB.size)).trans (k9.below (B := w.heap.size) (Nat.le_refl _))
      clear k9 q9
      generalize ((((wz.setCell ⟨w.heap.size, 0, none⟩ (.slice na x0.K.length nc)).setCell ⟨w.heap.size, 1, none⟩ (.slice oa lv.length oc)).setCell ⟨w.heap.size, 2, none⟩ (.int .i64 e)).setCell ⟨w.heap.size, 3, none⟩ (.int .i64 pl)) = w11 at bd hB u0 u1 u2 u3 ⊢
      refine bodyPost_ret (v := .agg #[.slice na x0.K.length nc, .slice oa lv.length oc, .int .i64 e, .int .i64 pl]) (by rw [results_c rfl]; go_simp) rfl ?_
      refine ⟨⟨w1.heap.size + 2, by omega, ?_⟩, hB⟩
      rw [HW.out]
      exact ⟨_, lv, x0, P, by rw [en], bd, hrl, hkl⟩
  · rw [hbb] at hE
    have HW := hideT (show wholeB fin (buildB b0 T) e pl = (s2, cc, qq) by rw [hbb]; rfl)
    have hne := buildB_ne hbb
    have xc : (cc != 0) = true := by rw [bne_iff_ne]; exact hne
    clear hbb hne
    obtain ⟨ov, lv, x0, P, rfl, bd, hrl, hkl⟩ := hE
    obtain ⟨oa, oc, eo⟩ := own_sl bd.own
    subst eo
    obtain ⟨na, nc, en⟩ := own_sl (bd.ok x0 (by simp))
    rw [en]
    have b8 := below_alloc (w := w2) (.cells #[.slice na x0.K.length nc, .slice oa lv.length oc, .int .i64 cc, .int .i64 qq] 54)
    have q8 := Blk.new w2 #[.slice na x0.K.length nc, .slice oa lv.length oc, .int .i64 cc, .int .i64 qq] 54
    replace q4 := q4.later b8
    have HBD := hideT (And.intro bd (And.intro hrl hkl))
    clear bd hrl hkl
    go_upto_region 3 with fail
    generalize w2.alloc (.cells #[.slice na x0.K.length nc, .slice oa lv.length oc, .int .i64 cc, .int .i64 qq] 54) = W8 at b8 q8 q4 ⊢
    obtain ⟨c8, hc8⟩ : ∃ c8, w2.heap.size = c8 := ⟨_, rfl⟩
    have h48 : w.heap.size < c8 := by omega
    have HB8 := hideT b8
    rw [hc8] at q8 ⊢
    have HC8 := hideT hc8
    clear hc8 b8
    have y1 := q8.cell 1
    have y2 := q8.cell 2
    have y3 := q8.cell 3
    simp only [List.getElem?_toArray, List.getElem?_cons_zero, List.getElem?_cons_succ] at y1 y2 y3
    go_upto_region 8 with fail
    clear y1 y2 y3
    obtain ⟨bd, hrl, hkl⟩ := HBD.out
    have bz := HB8.out
    have hc8 := HC8.out
    obtain ⟨wz, rfl⟩ : ∃ wz, wz = W8 := ⟨_, rfl⟩
    have y0 := q8.cell 0
    have y1 := q8.cell 1
    have y2 := q8.cell 2
    have y3 := q8.cell 3
    have z0 := q4.cell 0
    have z1 := q4.cell 1
    have z2 := q4.cell 2
    have z3 := q4.cell 3
    simp only [List.getElem?_toArray, List.getElem?_cons_zero, List.getElem?_cons_succ] at y0 z0 y1 z1 y2 z2 y3 z3
    have fz := fun o => q4.frozen o
    go_wp2
    clear fz y0 z0 y1 z1 y2 z2 y3 z3
    obtain ⟨k9, q9⟩ := q4.set4s (.slice na x0.K.length nc) (.slice oa lv.length oc) (.int .i64 cc) (.int .i64 qq)
    have u0 := q9.cell 0
    have u1 := q9.cell 1
    have u2 := q9.cell 2
    have u3 := q9.cell 3
    simp only [List.getElem?_toArray, List.getElem?_cons_zero, List.getElem?_cons_succ] at u0 u1 u2 u3
    replace bd := (bd.later bz).kp (Kp.ch (X := fun i => i = w.heap.size) k9 rfl) (fun i e => Or.inl (by omega))
    replace hB := (hB.trans (bz.mono hB.size)).trans (k9.below (B := w.heap.size) (Nat.le_refl _))
    clear k9 q9
    generalize ((((wz.setCell ⟨w.heap.size, 0, none⟩ (.slice na x0.K.length nc)).setCell ⟨w.heap.size, 1, none⟩ (.slice oa lv.length oc)).setCell ⟨w.heap.size, 2, none⟩ (.int .i64 cc)).setCell ⟨w.heap.size, 3, none⟩ (.int .i64 qq)) = w11 at bd hB u0 u1 u2 u3 ⊢
    refine bodyPost_ret (v := .agg #[.slice na x0.K.length nc, .slice oa lv.length oc, .int .i64 cc, .int .i64 qq]) (by rw [results_c rfl]; go_simp) rfl ?_
    refine ⟨⟨w1.heap.size + 2, by omega, ?_⟩, hB⟩
    rw [HW.out]
    exact ⟨_, lv, x0, P, by rw [en], bd, hrl, hkl⟩

end Go.Proofs.YtibeiggedmabkaaDoor
