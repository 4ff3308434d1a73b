/-
  The reference's keyword.
-/
import Derived.Test.YtibeiggedmabkaaDoorTR4
namespace Go.Proofs.YtibeiggedmabkaaDoor
open Go.RowKit
set_option linter.unusedVariables false
set_option linter.unusedSimpArgs false
set_option maxHeartbeats 4000000 in
set_option maxRecDepth 100000 in
theorem keyword_is (s : ByteArray) (S : List UInt8) (hS : s.data.toList = S) (i : Nat) (fin : Bool) (w : World) (hsz : s.size ≤ 4294967280) (hi : i < s.size) : Calls Tryd.prog 65 #[.string s, .int .i64 i, .bool fin] w fun r w' => r = .returned (seenV s.size i fin (keyP S i)) ∧ Below w.heap.size w w' := by
  have hy := fun k (h : k < s.size) => byS_byt h
  have hsl : s.size = S.length := by rw [← hS, Array.length_toList]; rfl
  rw [hS] at hy
  have HSS := hideT hS
  clear hS
  have HY := hideT hy
  have HL := hideT hsl
  clear hy hsl
  obtain ⟨X, hX⟩ : ∃ X, keyP S i = X := ⟨_, rfl⟩
  rw [hX]
  have HX := hideT hX
  clear hX
  have hB := below_alloc (w := w) (.cells #[.int .i64 0, .int .i64 0, .string ⟨#[]⟩, .int .i64 0, .int .i64 0, .int .i64 0] 92)
  have qT := Blk.new w #[.int .i64 0, .int .i64 0, .string ⟨#[]⟩, .int .i64 0, .int .i64 0, .int .i64 0] 92
  have eW : (w.alloc (.cells #[.int .i64 0, .int .i64 0, .string ⟨#[]⟩, .int .i64 0, .int .i64 0, .int .i64 0] 92)).heap.size = w.heap.size + 1 := by simp
  go_enter Tryd.func65, Tryd.ntmps65
  go_upto_region 1 with fail
  generalize w.alloc (.cells #[.int .i64 0, .int .i64 0, .string ⟨#[]⟩, .int .i64 0, .int .i64 0, .int .i64 0] 92) = W at hB qT eW ⊢
  by_cases h1 : i + 1 = s.size
  · have x1 : (((i : Int) + 1) == (s.size : Int)) = true := by rw [beq_iff_eq]; omega
    have hX : X = .half 120 := by rw [← HX.out]; unfold keyP; rw [if_pos (by rw [← HL.out]; exact h1)]
    clear h1
    cases fin
    · skip
      have fz := fun o => qT.frozen o
      have t0 := qT.cell 0
      have t1 := qT.cell 1
      have t2 := qT.cell 2
      have t3 := qT.cell 3
      have t4 := qT.cell 4
      have t5 := qT.cell 5
      simp only [List.getElem?_toArray, List.getElem?_cons_zero, List.getElem?_cons_succ] at t0 t1 t2 t3 t4 t5
      go_wp2
      clear fz t0 t1 t2 t3 t4 t5
      obtain ⟨k6, q6⟩ := qT.set6 (.int .i64 1) (.int .i64 0) (.string ⟨#[]⟩) (.int .i64 0) (.int .i64 0) (.int .i64 0)
      unfold set6 at k6 q6
      have x0 := q6.cell 0
      have x1 := q6.cell 1
      have x2 := q6.cell 2
      have x3 := q6.cell 3
      have x4 := q6.cell 4
      have x5 := q6.cell 5
      simp only [List.getElem?_toArray, List.getElem?_cons_zero, List.getElem?_cons_succ] at x0 x1 x2 x3 x4 x5
      replace hB := hB.trans ((k6.below (Nat.le_refl _)).mono (Nat.le_refl _))
      clear k6 q6 qT
      generalize ((((((W.setCell ⟨w.heap.size, 0, none⟩ (.int .i64 1)).setCell ⟨w.heap.size, 1, none⟩ (.int .i64 0)).setCell ⟨w.heap.size, 2, none⟩ (.string ⟨#[]⟩)).setCell ⟨w.heap.size, 3, none⟩ (.int .i64 0)).setCell ⟨w.heap.size, 4, none⟩ (.int .i64 0)).setCell ⟨w.heap.size, 5, none⟩ (.int .i64 0)) = w9 at x0 x1 x2 x3 x4 x5 hB ⊢
      refine bodyPost_ret (v := .agg #[.int .i64 1, .int .i64 0, .string ⟨#[]⟩, .int .i64 0, .int .i64 0, .int .i64 0]) (by rw [results_c rfl]; go_simp) rfl ?_
      refine ⟨?_, hB⟩
      rw [hX]; rfl
    · skip
      have GBD := hideT (fun W => bad_is i W)
      unfold wrV at GBD
      go_wp2_with fail
      refine (GBD.out _).mono ?_
      rintro e w1 ⟨rfl, b1⟩
      replace qT := qT.later b1
      replace hB := hB.trans (b1.mono hB.size)
      clear b1
      have fz := fun o => qT.frozen o
      have t0 := qT.cell 0
      have t1 := qT.cell 1
      have t2 := qT.cell 2
      have t3 := qT.cell 3
      have t4 := qT.cell 4
      have t5 := qT.cell 5
      simp only [List.getElem?_toArray, List.getElem?_cons_zero, List.getElem?_cons_succ] at t0 t1 t2 t3 t4 t5
      go_wp2
      clear fz t0 t1 t2 t3 t4 t5
      obtain ⟨k6, q6⟩ := qT.set6 (.int .i64 2) (.int .i64 0) (.string ⟨#[]⟩) (.int .i64 0) (.int .i64 120) (.int .i64 i)
      unfold set6 at k6 q6
      have x0 := q6.cell 0
      have x1 := q6.cell 1
      have x2 := q6.cell 2
      have x3 := q6.cell 3
      have x4 := q6.cell 4
      have x5 := q6.cell 5
      simp only [List.getElem?_toArray, List.getElem?_cons_zero, List.getElem?_cons_succ] at x0 x1 x2 x3 x4 x5
      replace hB := hB.trans ((k6.below (Nat.le_refl _)).mono (Nat.le_refl _))
      clear k6 q6 qT
      generalize ((((((w1.setCell ⟨w.heap.size, 0, none⟩ (.int .i64 2)).setCell ⟨w.heap.size, 1, none⟩ (.int .i64 0)).setCell ⟨w.heap.size, 2, none⟩ (.string ⟨#[]⟩)).setCell ⟨w.heap.size, 3, none⟩ (.int .i64 0)).setCell ⟨w.heap.size, 4, none⟩ (.int .i64 120)).setCell ⟨w.heap.size, 5, none⟩ (.int .i64 i)) = w9 at x0 x1 x2 x3 x4 x5 hB ⊢
      refine bodyPost_ret (v := .agg #[.int .i64 2, .int .i64 0, .string ⟨#[]⟩, .int .i64 0, .int .i64 120, .int .i64 i]) (by rw [results_c rfl]; go_simp) rfl ?_
      refine ⟨?_, hB⟩
      rw [hX]; rfl
  · have x1 : (((i : Int) + 1) == (s.size : Int)) = false := by rw [beq_eq_false_iff_ne]; omega
    have hl1 : i + 1 < s.size := by omega
    have hb1 := byt_of hl1
    have hy1 := HY.out (i + 1) hl1
    have hnl : ¬ i + 1 = S.length := by rw [← HL.out]; exact h1
    clear h1
    have GS := hideT (fun W => symbolByte_is (byt s (i + 1)) W)
    have GD := hideT (fun W => digit_is (byt s (i + 1)) W)
    rcases hs : syN (byt s (i + 1)) with _ | _
    · have hX : X = .bad i := by rw [← HX.out]; unfold keyP; rw [if_neg hnl, if_pos (by rw [hy1, hs]; simp)]
      rw [hs, hb1] at GS
      clear hs hb1 hy1 hnl GD HX
      go_wp2_with fail
      refine (GS.out _).mono ?_
      rintro e w1 ⟨rfl, rfl⟩
      have GBD := hideT (fun W => bad_is i W)
      unfold wrV at GBD
      go_wp2_with fail
      refine (GBD.out _).mono ?_
      rintro e w1 ⟨rfl, b1⟩
      replace qT := qT.later b1
      replace hB := hB.trans (b1.mono hB.size)
      clear b1
      have fz := fun o => qT.frozen o
      have t0 := qT.cell 0
      have t1 := qT.cell 1
      have t2 := qT.cell 2
      have t3 := qT.cell 3
      have t4 := qT.cell 4
      have t5 := qT.cell 5
      simp only [List.getElem?_toArray, List.getElem?_cons_zero, List.getElem?_cons_succ] at t0 t1 t2 t3 t4 t5
      go_wp2
      clear fz t0 t1 t2 t3 t4 t5
      obtain ⟨k6, q6⟩ := qT.set6 (.int .i64 2) (.int .i64 0) (.string ⟨#[]⟩) (.int .i64 0) (.int .i64 120) (.int .i64 i)
      unfold set6 at k6 q6
      have x0 := q6.cell 0
      have x1 := q6.cell 1
      have x2 := q6.cell 2
      have x3 := q6.cell 3
      have x4 := q6.cell 4
      have x5 := q6.cell 5
      simp only [List.getElem?_toArray, List.getElem?_cons_zero, List.getElem?_cons_succ] at x0 x1 x2 x3 x4 x5
      replace hB := hB.trans ((k6.below (Nat.le_refl _)).mono (Nat.le_refl _))
      clear k6 q6 qT
      generalize ((((((w1.setCell ⟨w.heap.size, 0, none⟩ (.int .i64 2)).setCell ⟨w.heap.size, 1, none⟩ (.int .i64 0)).setCell ⟨w.heap.size, 2, none⟩ (.string ⟨#[]⟩)).setCell ⟨w.heap.size, 3, none⟩ (.int .i64 0)).setCell ⟨w.heap.size, 4, none⟩ (.int .i64 120)).setCell ⟨w.heap.size, 5, none⟩ (.int .i64 i)) = w9 at x0 x1 x2 x3 x4 x5 hB ⊢
      refine bodyPost_ret (v := .agg #[.int .i64 2, .int .i64 0, .string ⟨#[]⟩, .int .i64 0, .int .i64 120, .int .i64 i]) (by rw [results_c rfl]; go_simp) rfl ?_
      refine ⟨?_, hB⟩
      rw [hX]; rfl
    · rcases hd : dgN (byt s (i + 1)) with _ | _
      · rw [hs, hb1] at GS
        rw [hd, hb1] at GD
        obtain ⟨e, her⟩ : ∃ e, runE syN S (i + 1) = e := ⟨_, rfl⟩
        have hr := runE_spec syN S (i + 1) (by rw [← HL.out]; omega)
        rw [her, ← HL.out] at hr
        obtain ⟨r1, r2, _⟩ := hr
        have hX : X = .tok 4 (bts (subS S (i + 1) e)) e false := by rw [← HX.out]; unfold keyP; rw [if_neg hnl, if_neg (by rw [hy1, hs, hd]; simp), her]
        have GE_ := hideT (fun W => symEnd_is s S HSS.out (i + 1) W hsz (by omega))
        rw [her, show ((i + 1 : Nat) : Int) = (i : Int) + 1 by omega] at GE_
        clear hs hd hb1 hy1 hnl her HX
        go_wp2_with fail
        refine (GS.out _).mono ?_
        rintro e w1 ⟨rfl, rfl⟩
        go_wp2_with fail
        refine (GD.out _).mono ?_
        rintro e w1 ⟨rfl, rfl⟩
        go_wp2_with fail
        refine (GE_.out _).mono ?_
        rintro e w1 ⟨rfl, rfl⟩
        have hsl : ∀ wx : World, (Instr.slice 9 (.string s) (some (.int .i64 ((i : Int) + 1))) (some (.int .i64 ((e : Int)))) none).run Tryd.prog wx = .ok (.string (s.extract (i + 1) (e))) wx := fun wx => by
          have h := run_slice_string_if (P := Tryd.prog) (w := wx) 9 s .i64 .i64 ((i : Int) + 1) ((e : Int)) Tryd.underlying9
          rw [if_pos (by omega), if_pos (by omega), show ((i : Int) + 1).toNat = i + 1 by omega, show ((e : Int)).toNat = e by omega] at h
          exact h
        by_cases he : e = s.size
        · have xe : ((e : Int) == (s.size : Int)) = true := by rw [beq_iff_eq]; omega
          have HEE := hideT he
          clear he
          cases fin
          · have GU := hideT (fun W => unless_is 4 (s.extract (i + 1) e) e true false W)
            rw [if_pos (by simp)] at GU
            unfold opV at GU
            go_wp2_with fail
            refine (GU.out _).mono ?_
            rintro e w1 ⟨rfl, b1⟩
            replace qT := qT.later b1
            replace hB := hB.trans (b1.mono hB.size)
            clear b1
            have fz := fun o => qT.frozen o
            have t0 := qT.cell 0
            have t1 := qT.cell 1
            have t2 := qT.cell 2
            have t3 := qT.cell 3
            have t4 := qT.cell 4
            have t5 := qT.cell 5
            simp only [List.getElem?_toArray, List.getElem?_cons_zero, List.getElem?_cons_succ] at t0 t1 t2 t3 t4 t5
            go_wp2
            clear fz t0 t1 t2 t3 t4 t5
            obtain ⟨k6, q6⟩ := qT.set6 (.int .i64 1) (.int .i64 0) (.string ⟨#[]⟩) (.int .i64 0) (.int .i64 0) (.int .i64 0)
            unfold set6 at k6 q6
            have x0 := q6.cell 0
            have x1 := q6.cell 1
            have x2 := q6.cell 2
            have x3 := q6.cell 3
            have x4 := q6.cell 4
            have x5 := q6.cell 5
            simp only [List.getElem?_toArray, List.getElem?_cons_zero, List.getElem?_cons_succ] at x0 x1 x2 x3 x4 x5
            replace hB := hB.trans ((k6.below (Nat.le_refl _)).mono (Nat.le_refl _))
            clear k6 q6 qT
            generalize ((((((w1.setCell ⟨w.heap.size, 0, none⟩ (.int .i64 1)).setCell ⟨w.heap.size, 1, none⟩ (.int .i64 0)).setCell ⟨w.heap.size, 2, none⟩ (.string ⟨#[]⟩)).setCell ⟨w.heap.size, 3, none⟩ (.int .i64 0)).setCell ⟨w.heap.size, 4, none⟩ (.int .i64 0)).setCell ⟨w.heap.size, 5, none⟩ (.int .i64 0)) = w9 at x0 x1 x2 x3 x4 x5 hB ⊢
            refine bodyPost_ret (v := .agg #[.int .i64 1, .int .i64 0, .string ⟨#[]⟩, .int .i64 0, .int .i64 0, .int .i64 0]) (by rw [results_c rfl]; go_simp) rfl ?_
            refine ⟨?_, hB⟩
            rw [hX, seenV_open HEE.out]; rfl
          · have GU := hideT (fun W => unless_is 4 (s.extract (i + 1) e) e true true W)
            rw [if_neg (by simp)] at GU
            unfold whV at GU
            go_wp2_with fail
            refine (GU.out _).mono ?_
            rintro e w1 ⟨rfl, b1⟩
            replace qT := qT.later b1
            replace hB := hB.trans (b1.mono hB.size)
            clear b1
            have fz := fun o => qT.frozen o
            have t0 := qT.cell 0
            have t1 := qT.cell 1
            have t2 := qT.cell 2
            have t3 := qT.cell 3
            have t4 := qT.cell 4
            have t5 := qT.cell 5
            simp only [List.getElem?_toArray, List.getElem?_cons_zero, List.getElem?_cons_succ] at t0 t1 t2 t3 t4 t5
            go_wp2
            clear fz t0 t1 t2 t3 t4 t5
            obtain ⟨k6, q6⟩ := qT.set6 (.int .i64 0) (.int .i64 4) (.string (s.extract (i + 1) e)) (.int .i64 e) (.int .i64 0) (.int .i64 0)
            unfold set6 at k6 q6
            have x0 := q6.cell 0
            have x1 := q6.cell 1
            have x2 := q6.cell 2
            have x3 := q6.cell 3
            have x4 := q6.cell 4
            have x5 := q6.cell 5
            simp only [List.getElem?_toArray, List.getElem?_cons_zero, List.getElem?_cons_succ] at x0 x1 x2 x3 x4 x5
            replace hB := hB.trans ((k6.below (Nat.le_refl _)).mono (Nat.le_refl _))
            clear k6 q6 qT
            generalize ((((((w1.setCell ⟨w.heap.size, 0, none⟩ (.int .i64 0)).setCell ⟨w.heap.size, 1, none⟩ (.int .i64 4)).setCell ⟨w.heap.size, 2, none⟩ (.string (s.extract (i + 1) e))).setCell ⟨w.heap.size, 3, none⟩ (.int .i64 e)).setCell ⟨w.heap.size, 4, none⟩ (.int .i64 0)).setCell ⟨w.heap.size, 5, none⟩ (.int .i64 0)) = w9 at x0 x1 x2 x3 x4 x5 hB ⊢
            refine bodyPost_ret (v := .agg #[.int .i64 0, .int .i64 4, .string (s.extract (i + 1) e), .int .i64 e, .int .i64 0, .int .i64 0]) (by rw [results_c rfl]; go_simp) rfl ?_
            refine ⟨?_, hB⟩
            rw [hX, seenV_whole (by simp), sub_is HSS.out]; rfl
        · have xe : ((e : Int) == (s.size : Int)) = false := by rw [beq_eq_false_iff_ne]; omega
          have HEE := hideT he
          clear he
          have GU := hideT (fun W => unless_is 4 (s.extract (i + 1) e) e false fin W)
          rw [if_neg (by simp)] at GU
          unfold whV at GU
          go_wp2_with fail
          refine (GU.out _).mono ?_
          rintro e w1 ⟨rfl, b1⟩
          replace qT := qT.later b1
          replace hB := hB.trans (b1.mono hB.size)
          clear b1
          have fz := fun o => qT.frozen o
          have t0 := qT.cell 0
          have t1 := qT.cell 1
          have t2 := qT.cell 2
          have t3 := qT.cell 3
          have t4 := qT.cell 4
          have t5 := qT.cell 5
          simp only [List.getElem?_toArray, List.getElem?_cons_zero, List.getElem?_cons_succ] at t0 t1 t2 t3 t4 t5
          go_wp2
          clear fz t0 t1 t2 t3 t4 t5
          obtain ⟨k6, q6⟩ := qT.set6 (.int .i64 0) (.int .i64 4) (.string (s.extract (i + 1) e)) (.int .i64 e) (.int .i64 0) (.int .i64 0)
          unfold set6 at k6 q6
          have x0 := q6.cell 0
          have x1 := q6.cell 1
          have x2 := q6.cell 2
          have x3 := q6.cell 3
          have x4 := q6.cell 4
          have x5 := q6.cell 5
          simp only [List.getElem?_toArray, List.getElem?_cons_zero, List.getElem?_cons_succ] at x0 x1 x2 x3 x4 x5
          replace hB := hB.trans ((k6.below (Nat.le_refl _)).mono (Nat.le_refl _))
          clear k6 q6 qT
          generalize ((((((w1.setCell ⟨w.heap.size, 0, none⟩ (.int .i64 0)).setCell ⟨w.heap.size, 1, none⟩ (.int .i64 4)).setCell ⟨w.heap.size, 2, none⟩ (.string (s.extract (i + 1) e))).setCell ⟨w.heap.size, 3, none⟩ (.int .i64 e)).setCell ⟨w.heap.size, 4, none⟩ (.int .i64 0)).setCell ⟨w.heap.size, 5, none⟩ (.int .i64 0)) = w9 at x0 x1 x2 x3 x4 x5 hB ⊢
          refine bodyPost_ret (v := .agg #[.int .i64 0, .int .i64 4, .string (s.extract (i + 1) e), .int .i64 e, .int .i64 0, .int .i64 0]) (by rw [results_c rfl]; go_simp) rfl ?_
          refine ⟨?_, hB⟩
          rw [hX, seenV_whole (fun c => HEE.out c.2.1), sub_is HSS.out]; rfl
      · have hX : X = .bad i := by rw [← HX.out]; unfold keyP; rw [if_neg hnl, if_pos (by rw [hy1, hs, hd]; simp)]
        rw [hs, hb1] at GS
        rw [hd, hb1] at GD
        clear hs hd hb1 hy1 hnl HX
        go_wp2_with fail
        refine (GS.out _).mono ?_
        rintro e w1 ⟨rfl, rfl⟩
        go_wp2_with fail
        refine (GD.out _).mono ?_
        rintro e w1 ⟨rfl, rfl⟩
        have GBD := hideT (fun W => bad_is i W)
        unfold wrV at GBD
        go_wp2_with fail
        refine (GBD.out _).mono ?_
        rintro e w1 ⟨rfl, b1⟩
        replace qT := qT.later b1
        replace hB := hB.trans (b1.mono hB.size)
        clear b1
        have fz := fun o => qT.frozen o
        have t0 := qT.cell 0
        have t1 := qT.cell 1
        have t2 := qT.cell 2
        have t3 := qT.cell 3
        have t4 := qT.cell 4
        have t5 := qT.cell 5
        simp only [List.getElem?_toArray, List.getElem?_cons_zero, List.getElem?_cons_succ] at t0 t1 t2 t3 t4 t5
        go_wp2
        clear fz t0 t1 t2 t3 t4 t5
        obtain ⟨k6, q6⟩ := qT.set6 (.int .i64 2) (.int .i64 0) (.string ⟨#[]⟩) (.int .i64 0) (.int .i64 120) (.int .i64 i)
        unfold set6 at k6 q6
        have x0 := q6.cell 0
        have x1 := q6.cell 1
        have x2 := q6.cell 2
        have x3 := q6.cell 3
        have x4 := q6.cell 4
        have x5 := q6.cell 5
        simp only [List.getElem?_toArray, List.getElem?_cons_zero, List.getElem?_cons_succ] at x0 x1 x2 x3 x4 x5
        replace hB := hB.trans ((k6.below (Nat.le_refl _)).mono (Nat.le_refl _))
        clear k6 q6 qT
        generalize ((((((w1.setCell ⟨w.heap.size, 0, none⟩ (.int .i64 2)).setCell ⟨w.heap.size, 1, none⟩ (.int .i64 0)).setCell ⟨w.heap.size, 2, none⟩ (.string ⟨#[]⟩)).setCell ⟨w.heap.size, 3, none⟩ (.int .i64 0)).setCell ⟨w.heap.size, 4, none⟩ (.int .i64 120)).setCell ⟨w.heap.size, 5, none⟩ (.int .i64 i)) = w9 at x0 x1 x2 x3 x4 x5 hB ⊢
        refine bodyPost_ret (v := .agg #[.int .i64 2, .int .i64 0, .string ⟨#[]⟩, .int .i64 0, .int .i64 120, .int .i64 i]) (by rw [results_c rfl]; go_simp) rfl ?_
        refine ⟨?_, hB⟩
        rw [hX]; rfl

end Go.Proofs.YtibeiggedmabkaaDoor
