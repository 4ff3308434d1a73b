/-
  The reference's look.
-/
import Derived.Test.YtpfmamimhhnbiaaGreatDoorTR4
import Derived.Test.YtpfmamimhhnbiaaGreatDoorTR6
import Derived.Test.YtpfmamimhhnbiaaGreatDoorTR7
import Derived.Test.YtpfmamimhhnbiaaGreatDoorTR8
namespace Go.Proofs.YtpfmamimhhnbiaaGreatDoor
open Go.RowKit
set_option linter.unusedVariables false
set_option linter.unusedSimpArgs false
set_option maxHeartbeats 4000000 in
set_option maxRecDepth 100000 in
theorem keyword_is (s : ByteArray) (S : List UInt8) (hS : s.data.toList = S) (i : Nat) (fin : Bool) (w : World) (hsz : s.size ≤ 4294967280) (hi : i < s.size) : Calls Tryz.prog 69 #[.string s, .int .i64 i, .bool fin] w fun r w' => r = .returned (seenV s.size i fin (keyP S i)) ∧ Below w.heap.size w w' := by
  have hy := fun k (h : k < s.size) => byS_byt h
  have hsl : s.size = S.length := by rw [← hS, Array.length_toList]; rfl
  rw [hS] at hy
  have HSS := hideT hS
  clear hS
  have HY := hideT hy
  have HL := hideT hsl
  clear hy hsl
  obtain ⟨X, hX⟩ : ∃ X, keyP S i = X := ⟨_, rfl⟩
  rw [hX]
  have HX := hideT hX
  clear hX
  have hB := below_alloc (w := w) (.cells #[.int .i64 0, .int .i64 0, .string ⟨#[]⟩, .int .i64 0, .int .i64 0, .int .i64 0] 79)
  have qT := Blk.new w #[.int .i64 0, .int .i64 0, .string ⟨#[]⟩, .int .i64 0, .int .i64 0, .int .i64 0] 79
  have eW : (w.alloc (.cells #[.int .i64 0, .int .i64 0, .string ⟨#[]⟩, .int .i64 0, .int .i64 0, .int .i64 0] 79)).heap.size = w.heap.size + 1 := by simp
  go_enter Tryz.func69, Tryz.ntmps69
  go_upto_region 1 with fail
  generalize w.alloc (.cells #[.int .i64 0, .int .i64 0, .string ⟨#[]⟩, .int .i64 0, .int .i64 0, .int .i64 0] 79) = W at hB qT eW ⊢
  by_cases h1 : i + 1 = s.size
  · have x1 : (((i : Int) + 1) == (s.size : Int)) = true := by rw [beq_iff_eq]; omega
    have hX : X = .half 120 := by rw [← HX.out]; unfold keyP; rw [if_pos (by rw [← HL.out]; exact h1)]
    clear h1
    cases fin
    · skip
      have fz := fun o => qT.frozen o
      have t0 := qT.cell 0
      have t1 := qT.cell 1
      have t2 := qT.cell 2
      have t3 := qT.cell 3
      have t4 := qT.cell 4
      have t5 := qT.cell 5
      simp only [List.getElem?_toArray, List.getElem?_cons_zero, List.getElem?_cons_succ] at t0 t1 t2 t3 t4 t5
      go_wp2
      clear fz t0 t1 t2 t3 t4 t5
      obtain ⟨k6, q6⟩ := qT.set6 (.int .i64 1) (.int .i64 0) (.string ⟨#[]⟩) (.int .i64 0) (.int .i64 0) (.int .i64 0)
      unfold set6 at k6 q6
      have x0 := q6.cell 0
      have x1 := q6.cell 1
      have x2 := q6.cell 2
      have x3 := q6.cell 3
      have x4 := q6.cell 4
      have x5 := q6.cell 5
      simp only [List.getElem?_toArray, List.getElem?_cons_zero, List.getElem?_cons_succ] at x0 x1 x2 x3 x4 x5
      replace hB := hB.trans ((k6.below (Nat.le_refl _)).mono (Nat.le_refl _))
      clear k6 q6 qT
      generalize ((((((W.setCell ⟨w.heap.size, 0, none⟩ (.int .i64 1)).setCell ⟨w.heap.size, 1, none⟩ (.int .i64 0)).setCell ⟨w.heap.size, 2, none⟩ (.string ⟨#[]⟩)).setCell ⟨w.heap.size, 3, none⟩ (.int .i64 0)).setCell ⟨w.heap.size, 4, none⟩ (.int .i64 0)).setCell ⟨w.heap.size, 5, none⟩ (.int .i64 0)) = w9 at x0 x1 x2 x3 x4 x5 hB ⊢
      refine bodyPost_ret (v := .agg #[.int .i64 1, .int .i64 0, .string ⟨#[]⟩, .int .i64 0, .int .i64 0, .int .i64 0]) (by rw [results_c rfl]; go_simp) rfl ?_
      refine ⟨?_, hB⟩
      rw [hX]; rfl
    · skip
      have GBD := hideT (fun W => bad_is i W)
      unfold wrV at GBD
      go_wp2_with fail
      refine (GBD.out _).mono ?_
      rintro e w1 ⟨rfl, b1⟩
      replace qT := qT.later b1
      replace hB := hB.trans (b1.mono hB.size)
      clear b1
      have fz := fun o => qT.frozen o
      have t0 := qT.cell 0
      have t1 := qT.cell 1
      have t2 := qT.cell 2
      have t3 := qT.cell 3
      have t4 := qT.cell 4
      have t5 := qT.cell 5
      simp only [List.getElem?_toArray, List.getElem?_cons_zero, List.getElem?_cons_succ] at t0 t1 t2 t3 t4 t5
      go_wp2
      clear fz t0 t1 t2 t3 t4 t5
      obtain ⟨k6, q6⟩ := qT.set6 (.int .i64 2) (.int .i64 0) (.string ⟨#[]⟩) (.int .i64 0) (.int .i64 120) (.int .i64 i)
      unfold set6 at k6 q6
      have x0 := q6.cell 0
      have x1 := q6.cell 1
      have x2 := q6.cell 2
      have x3 := q6.cell 3
      have x4 := q6.cell 4
      have x5 := q6.cell 5
      simp only [List.getElem?_toArray, List.getElem?_cons_zero, List.getElem?_cons_succ] at x0 x1 x2 x3 x4 x5
      replace hB := hB.trans ((k6.below (Nat.le_refl _)).mono (Nat.le_refl _))
      clear k6 q6 qT
      generalize ((((((w1.setCell ⟨w.heap.size, 0, none⟩ (.int .i64 2)).setCell ⟨w.heap.size, 1, none⟩ (.int .i64 0)).setCell ⟨w.heap.size, 2, none⟩ (.string ⟨#[]⟩)).setCell ⟨w.heap.size, 3, none⟩ (.int .i64 0)).setCell ⟨w.heap.size, 4, none⟩ (.int .i64 120)).setCell ⟨w.heap.size, 5, none⟩ (.int .i64 i)) = w9 at x0 x1 x2 x3 x4 x5 hB ⊢
      refine bodyPost_ret (v := .agg #[.int .i64 2, .int .i64 0, .string ⟨#[]⟩, .int .i64 0, .int .i64 120, .int .i64 i]) (by rw [results_c rfl]; go_simp) rfl ?_
      refine ⟨?_, hB⟩
      rw [hX]; rfl
  · have x1 : (((i : Int) + 1) == (s.size : Int)) = false := by rw [beq_eq_false_iff_ne]; omega
    have hl1 : i + 1 < s.size := by omega
    have hb1 := byt_of hl1
    have hy1 := HY.out (i + 1) hl1
    have hnl : ¬ i + 1 = S.length := by rw [← HL.out]; exact h1
    clear h1
    have GS := hideT (fun W => symbolByte_is (byt s (i + 1)) W)
    have GD := hideT (fun W => digit_is (byt s (i + 1)) W)
    rcases hs : syN (byt s (i + 1)) with _ | _
    · have hX : X = .bad i := by rw [← HX.out]; unfold keyP; rw [if_neg hnl, if_pos (by rw [hy1, hs]; simp)]
      rw [hs, hb1] at GS
      clear hs hb1 hy1 hnl GD HX
      go_wp2_with fail
      refine (GS.out _).mono ?_
      rintro e w1 ⟨rfl, rfl⟩
      have GBD := hideT (fun W => bad_is i W)
      unfold wrV at GBD
      go_wp2_with fail
      refine (GBD.out _).mono ?_
      rintro e w1 ⟨rfl, b1⟩
      replace qT := qT.later b1
      replace hB := hB.trans (b1.mono hB.size)
      clear b1
      have fz := fun o => qT.frozen o
      have t0 := qT.cell 0
      have t1 := qT.cell 1
      have t2 := qT.cell 2
      have t3 := qT.cell 3
      have t4 := qT.cell 4
      have t5 := qT.cell 5
      simp only [List.getElem?_toArray, List.getElem?_cons_zero, List.getElem?_cons_succ] at t0 t1 t2 t3 t4 t5
      go_wp2
      clear fz t0 t1 t2 t3 t4 t5
      obtain ⟨k6, q6⟩ := qT.set6 (.int .i64 2) (.int .i64 0) (.string ⟨#[]⟩) (.int .i64 0) (.int .i64 120) (.int .i64 i)
      unfold set6 at k6 q6
      have x0 := q6.cell 0
      have x1 := q6.cell 1
      have x2 := q6.cell 2
      have x3 := q6.cell 3
      have x4 := q6.cell 4
      have x5 := q6.cell 5
      simp only [List.getElem?_toArray, List.getElem?_cons_zero, List.getElem?_cons_succ] at x0 x1 x2 x3 x4 x5
      replace hB := hB.trans ((k6.below (Nat.le_refl _)).mono (Nat.le_refl _))
      clear k6 q6 qT
      generalize ((((((w1.setCell ⟨w.heap.size, 0, none⟩ (.int .i64 2)).setCell ⟨w.heap.size, 1, none⟩ (.int .i64 0)).setCell ⟨w.heap.size, 2, none⟩ (.string ⟨#[]⟩)).setCell ⟨w.heap.size, 3, none⟩ (.int .i64 0)).setCell ⟨w.heap.size, 4, none⟩ (.int .i64 120)).setCell ⟨w.heap.size, 5, none⟩ (.int .i64 i)) = w9 at x0 x1 x2 x3 x4 x5 hB ⊢
      refine bodyPost_ret (v := .agg #[.int .i64 2, .int .i64 0, .string ⟨#[]⟩, .int .i64 0, .int .i64 120, .int .i64 i]) (by rw [results_c rfl]; go_simp) rfl ?_
      refine ⟨?_, hB⟩
      rw [hX]; rfl
    · rcases hd : dgN (byt s (i + 1)) with _ | _
      · rw [hs, hb1] at GS
        rw [hd, hb1] at GD
        obtain ⟨e, her⟩ : ∃ e, runE syN S (i + 1) = e := ⟨_, rfl⟩
        have hr := runE_spec syN S (i + 1) (by rw [← HL.out]; omega)
        rw [her, ← HL.out] at hr
        obtain ⟨r1, r2, _⟩ := hr
        have hX : X = .tok 4 (bts (subS S (i + 1) e)) e false := by rw [← HX.out]; unfold keyP; rw [if_neg hnl, if_neg (by rw [hy1, hs, hd]; simp), her]
        have GE_ := hideT (fun W => symEnd_is s S HSS.out (i + 1) W hsz (by omega))
        rw [her, show ((i + 1 : Nat) : Int) = (i : Int) + 1 by omega] at GE_
        clear hs hd hb1 hy1 hnl her HX
        go_wp2_with fail
        refine (GS.out _).mono ?_
        rintro e w1 ⟨rfl, rfl⟩
        go_wp2_with fail
        refine (GD.out _).mono ?_
        rintro e w1 ⟨rfl, rfl⟩
        go_wp2_with fail
        refine (GE_.out _).mono ?_
        rintro e w1 ⟨rfl, rfl⟩
        have hsl : ∀ wx : World, (Instr.slice 9 (.string s) (some (.int .i64 ((i : Int) + 1))) (some (.int .i64 ((e : Int)))) none).run Tryz.prog wx = .ok (.string (s.extract (i + 1) (e))) wx := fun wx => by
          have h := run_slice_string_if (P := Tryz.prog) (w := wx) 9 s .i64 .i64 ((i : Int) + 1) ((e : Int)) Tryz.underlying9
          rw [if_pos (by omega), if_pos (by omega), show ((i : Int) + 1).toNat = i + 1 by omega, show ((e : Int)).toNat = e by omega] at h
          exact h
        by_cases he : e = s.size
        · have xe : ((e : Int) == (s.size : Int)) = true := by rw [beq_iff_eq]; omega
          have HEE := hideT he
          clear he
          cases fin
          · have GU := hideT (fun W => unless_is 4 (s.extract (i + 1) e) e true false W)
            rw [if_pos (by simp)] at GU
            unfold opV at GU
            go_wp2_with fail
            refine (GU.out _).mono ?_
            rintro e w1 ⟨rfl, b1⟩
            replace qT := qT.later b1
            replace hB := hB.trans (b1.mono hB.size)
            clear b1
            have fz := fun o => qT.frozen o
            have t0 := qT.cell 0
            have t1 := qT.cell 1
            have t2 := qT.cell 2
            have t3 := qT.cell 3
            have t4 := qT.cell 4
            have t5 := qT.cell 5
            simp only [List.getElem?_toArray, List.getElem?_cons_zero, List.getElem?_cons_succ] at t0 t1 t2 t3 t4 t5
            go_wp2
            clear fz t0 t1 t2 t3 t4 t5
            obtain ⟨k6, q6⟩ := qT.set6 (.int .i64 1) (.int .i64 0) (.string ⟨#[]⟩) (.int .i64 0) (.int .i64 0) (.int .i64 0)
            unfold set6 at k6 q6
            have x0 := q6.cell 0
            have x1 := q6.cell 1
            have x2 := q6.cell 2
            have x3 := q6.cell 3
            have x4 := q6.cell 4
            have x5 := q6.cell 5
            simp only [List.getElem?_toArray, List.getElem?_cons_zero, List.getElem?_cons_succ] at x0 x1 x2 x3 x4 x5
            replace hB := hB.trans ((k6.below (Nat.le_refl _)).mono (Nat.le_refl _))
            clear k6 q6 qT
            generalize ((((((w1.setCell ⟨w.heap.size, 0, none⟩ (.int .i64 1)).setCell ⟨w.heap.size, 1, none⟩ (.int .i64 0)).setCell ⟨w.heap.size, 2, none⟩ (.string ⟨#[]⟩)).setCell ⟨w.heap.size, 3, none⟩ (.int .i64 0)).setCell ⟨w.heap.size, 4, none⟩ (.int .i64 0)).setCell ⟨w.heap.size, 5, none⟩ (.int .i64 0)) = w9 at x0 x1 x2 x3 x4 x5 hB ⊢
            refine bodyPost_ret (v := .agg #[.int .i64 1, .int .i64 0, .string ⟨#[]⟩, .int .i64 0, .int .i64 0, .int .i64 0]) (by rw [results_c rfl]; go_simp) rfl ?_
            refine ⟨?_, hB⟩
            rw [hX, seenV_open HEE.out]; rfl
          · have GU := hideT (fun W => unless_is 4 (s.extract (i + 1) e) e true true W)
            rw [if_neg (by simp)] at GU
            unfold whV at GU
            go_wp2_with fail
            refine (GU.out _).mono ?_
            rintro e w1 ⟨rfl, b1⟩
            replace qT := qT.later b1
            replace hB := hB.trans (b1.mono hB.size)
            clear b1
            have fz := fun o => qT.frozen o
            have t0 := qT.cell 0
            have t1 := qT.cell 1
            have t2 := qT.cell 2
            have t3 := qT.cell 3
            have t4 := qT.cell 4
            have t5 := qT.cell 5
            simp only [List.getElem?_toArray, List.getElem?_cons_zero, List.getElem?_cons_succ] at t0 t1 t2 t3 t4 t5
            go_wp2
            clear fz t0 t1 t2 t3 t4 t5
            obtain ⟨k6, q6⟩ := qT.set6 (.int .i64 0) (.int .i64 4) (.string (s.extract (i + 1) e)) (.int .i64 e) (.int .i64 0) (.int .i64 0)
            unfold set6 at k6 q6
            have x0 := q6.cell 0
            have x1 := q6.cell 1
            have x2 := q6.cell 2
            have x3 := q6.cell 3
            have x4 := q6.cell 4
            have x5 := q6.cell 5
            simp only [List.getElem?_toArray, List.getElem?_cons_zero, List.getElem?_cons_succ] at x0 x1 x2 x3 x4 x5
            replace hB := hB.trans ((k6.below (Nat.le_refl _)).mono (Nat.le_refl _))
            clear k6 q6 qT
            generalize ((((((w1.setCell ⟨w.heap.size, 0, none⟩ (.int .i64 0)).setCell ⟨w.heap.size, 1, none⟩ (.int .i64 4)).setCell ⟨w.heap.size, 2, none⟩ (.string (s.extract (i + 1) e))).setCell ⟨w.heap.size, 3, none⟩ (.int .i64 e)).setCell ⟨w.heap.size, 4, none⟩ (.int .i64 0)).setCell ⟨w.heap.size, 5, none⟩ (.int .i64 0)) = w9 at x0 x1 x2 x3 x4 x5 hB ⊢
            refine bodyPost_ret (v := .agg #[.int .i64 0, .int .i64 4, .string (s.extract (i + 1) e), .int .i64 e, .int .i64 0, .int .i64 0]) (by rw [results_c rfl]; go_simp) rfl ?_
            refine ⟨?_, hB⟩
            rw [hX, seenV_whole (by simp), sub_is HSS.out]; rfl
        · have xe : ((e : Int) == (s.size : Int)) = false := by rw [beq_eq_false_iff_ne]; omega
          have HEE := hideT he
          clear he
          have GU := hideT (fun W => unless_is 4 (s.extract (i + 1) e) e false fin W)
          rw [if_neg (by simp)] at GU
          unfold whV at GU
          go_wp2_with fail
          refine (GU.out _).mono ?_
          rintro e w1 ⟨rfl, b1⟩
          replace qT := qT.later b1
          replace hB := hB.trans (b1.mono hB.size)
          clear b1
          have fz := fun o => qT.frozen o
          have t0 := qT.cell 0
          have t1 := qT.cell 1
          have t2 := qT.cell 2
          have t3 := qT.cell 3
          have t4 := qT.cell 4
          have t5 := qT.cell 5
          simp only [List.getElem?_toArray, List.getElem?_cons_zero, List.getElem?_cons_succ] at t0 t1 t2 t3 t4 t5
          go_wp2
          clear fz t0 t1 t2 t3 t4 t5
          obtain ⟨k6, q6⟩ := qT.set6 (.int .i64 0) (.int .i64 4) (.string (s.extract (i + 1) e)) (.int .i64 e) (.int .i64 0) (.int .i64 0)
          unfold set6 at k6 q6
          have x0 := q6.cell 0
          have x1 := q6.cell 1
          have x2 := q6.cell 2
          have x3 := q6.cell 3
          have x4 := q6.cell 4
          have x5 := q6.cell 5
          simp only [List.getElem?_toArray, List.getElem?_cons_zero, List.getElem?_cons_succ] at x0 x1 x2 x3 x4 x5
          replace hB := hB.trans ((k6.below (Nat.le_refl _)).mono (Nat.le_refl _))
          clear k6 q6 qT
          generalize ((((((w1.setCell ⟨w.heap.size, 0, none⟩ (.int .i64 0)).setCell ⟨w.heap.size, 1, none⟩ (.int .i64 4)).setCell ⟨w.heap.size, 2, none⟩ (.string (s.extract (i + 1) e))).setCell ⟨w.heap.size, 3, none⟩ (.int .i64 e)).setCell ⟨w.heap.size, 4, none⟩ (.int .i64 0)).setCell ⟨w.heap.size, 5, none⟩ (.int .i64 0)) = w9 at x0 x1 x2 x3 x4 x5 hB ⊢
          refine bodyPost_ret (v := .agg #[.int .i64 0, .int .i64 4, .string (s.extract (i + 1) e), .int .i64 e, .int .i64 0, .int .i64 0]) (by rw [results_c rfl]; go_simp) rfl ?_
          refine ⟨?_, hB⟩
          rw [hX, seenV_whole (fun c => HEE.out c.2.1), sub_is HSS.out]; rfl
      · have hX : X = .bad i := by rw [← HX.out]; unfold keyP; rw [if_neg hnl, if_pos (by rw [hy1, hs, hd]; simp)]
        rw [hs, hb1] at GS
        rw [hd, hb1] at GD
        clear hs hd hb1 hy1 hnl HX
        go_wp2_with fail
        refine (GS.out _).mono ?_
        rintro e w1 ⟨rfl, rfl⟩
        go_wp2_with fail
        refine (GD.out _).mono ?_
        rintro e w1 ⟨rfl, rfl⟩
        have GBD := hideT (fun W => bad_is i W)
        unfold wrV at GBD
        go_wp2_with fail
        refine (GBD.out _).mono ?_
        rintro e w1 ⟨rfl, b1⟩
        replace qT := qT.later b1
        replace hB := hB.trans (b1.mono hB.size)
        clear b1
        have fz := fun o => qT.frozen o
        have t0 := qT.cell 0
        have t1 := qT.cell 1
        have t2 := qT.cell 2
        have t3 := qT.cell 3
        have t4 := qT.cell 4
        have t5 := qT.cell 5
        simp only [List.getElem?_toArray, List.getElem?_cons_zero, List.getElem?_cons_succ] at t0 t1 t2 t3 t4 t5
        go_wp2
        clear fz t0 t1 t2 t3 t4 t5
        obtain ⟨k6, q6⟩ := qT.set6 (.int .i64 2) (.int .i64 0) (.string ⟨#[]⟩) (.int .i64 0) (.int .i64 120) (.int .i64 i)
        unfold set6 at k6 q6
        have x0 := q6.cell 0
        have x1 := q6.cell 1
        have x2 := q6.cell 2
        have x3 := q6.cell 3
        have x4 := q6.cell 4
        have x5 := q6.cell 5
        simp only [List.getElem?_toArray, List.getElem?_cons_zero, List.getElem?_cons_succ] at x0 x1 x2 x3 x4 x5
        replace hB := hB.trans ((k6.below (Nat.le_refl _)).mono (Nat.le_refl _))
        clear k6 q6 qT
        generalize ((((((w1.setCell ⟨w.heap.size, 0, none⟩ (.int .i64 2)).setCell ⟨w.heap.size, 1, none⟩ (.int .i64 0)).setCell ⟨w.heap.size, 2, none⟩ (.string ⟨#[]⟩)).setCell ⟨w.heap.size, 3, none⟩ (.int .i64 0)).setCell ⟨w.heap.size, 4, none⟩ (.int .i64 120)).setCell ⟨w.heap.size, 5, none⟩ (.int .i64 i)) = w9 at x0 x1 x2 x3 x4 x5 hB ⊢
        refine bodyPost_ret (v := .agg #[.int .i64 2, .int .i64 0, .string ⟨#[]⟩, .int .i64 0, .int .i64 120, .int .i64 i]) (by rw [results_c rfl]; go_simp) rfl ?_
        refine ⟨?_, hB⟩
        rw [hX]; rfl

end Go.Proofs.YtpfmamimhhnbiaaGreatDoor

namespace Go.Proofs.YtpfmamimhhnbiaaGreatDoor
open Go.RowKit
set_option linter.unusedVariables false
set_option linter.unusedSimpArgs false
set_option maxHeartbeats 4000000 in
set_option maxRecDepth 100000 in
theorem look_is (s : ByteArray) (S : List UInt8) (hS : s.data.toList = S) (i : Nat) (fin : Bool) (w : World) (hsz : s.size ≤ 4294967280) (hi : i < s.size) : Calls Tryz.prog 46 #[.string s, .int .i64 i, .bool fin] w fun r w' => r = .returned (seenV s.size i fin (lookP S i)) ∧ Below w.heap.size w w' := by
  have hy := fun k (h : k < s.size) => byS_byt h
  have hsl : s.size = S.length := by rw [← hS, Array.length_toList]; rfl
  rw [hS] at hy
  have HSS := hideT hS
  clear hS
  have HY := hideT hy
  have HL := hideT hsl
  clear hy hsl
  obtain ⟨X, hX⟩ : ∃ X, lookP S i = X := ⟨_, rfl⟩
  rw [hX]
  have HX := hideT hX
  clear hX
  have hb := byt_of hi
  have hyi := HY.out i hi
  have hX0 := HX.out
  unfold lookP at hX0
  rw [hyi] at hX0
  clear HX
  have hB := below_alloc (w := w) (.cells #[.int .i64 0, .int .i64 0, .string ⟨#[]⟩, .int .i64 0, .int .i64 0, .int .i64 0] 79)
  have qT := Blk.new w #[.int .i64 0, .int .i64 0, .string ⟨#[]⟩, .int .i64 0, .int .i64 0, .int .i64 0] 79
  have eW : (w.alloc (.cells #[.int .i64 0, .int .i64 0, .string ⟨#[]⟩, .int .i64 0, .int .i64 0, .int .i64 0] 79)).heap.size = w.heap.size + 1 := by simp
  go_enter Tryz.func46, Tryz.ntmps46
  go_upto_region 1 with fail
  generalize w.alloc (.cells #[.int .i64 0, .int .i64 0, .string ⟨#[]⟩, .int .i64 0, .int .i64 0, .int .i64 0] 79) = W at hB qT eW ⊢
  by_cases h40 : byt s i = 40
  · have x40 : (((s[i]'hi).toNat : Int) == 40) = true := by rw [← hb, h40]; rfl
    rw [if_pos h40] at hX0
    clear h40
    have HXX := hideT hX0
    clear hX0 hb hyi
    have fz := fun o => qT.frozen o
    have t0 := qT.cell 0
    have t1 := qT.cell 1
    have t2 := qT.cell 2
    have t3 := qT.cell 3
    have t4 := qT.cell 4
    have t5 := qT.cell 5
    simp only [List.getElem?_toArray, List.getElem?_cons_zero, List.getElem?_cons_succ] at t0 t1 t2 t3 t4 t5
    go_wp2
    clear fz t0 t1 t2 t3 t4 t5
    obtain ⟨k6, q6⟩ := qT.set6 (.int .i64 0) (.int .i64 1) (.string ⟨#[40]⟩) (.int .i64 ((i : Int) + 1)) (.int .i64 0) (.int .i64 0)
    unfold set6 at k6 q6
    have x0 := q6.cell 0
    have x1 := q6.cell 1
    have x2 := q6.cell 2
    have x3 := q6.cell 3
    have x4 := q6.cell 4
    have x5 := q6.cell 5
    simp only [List.getElem?_toArray, List.getElem?_cons_zero, List.getElem?_cons_succ] at x0 x1 x2 x3 x4 x5
    replace hB := hB.trans ((k6.below (Nat.le_refl _)).mono (Nat.le_refl _))
    clear k6 q6 qT
    generalize ((((((W.setCell ⟨w.heap.size, 0, none⟩ (.int .i64 0)).setCell ⟨w.heap.size, 1, none⟩ (.int .i64 1)).setCell ⟨w.heap.size, 2, none⟩ (.string ⟨#[40]⟩)).setCell ⟨w.heap.size, 3, none⟩ (.int .i64 ((i : Int) + 1))).setCell ⟨w.heap.size, 4, none⟩ (.int .i64 0)).setCell ⟨w.heap.size, 5, none⟩ (.int .i64 0)) = w9 at x0 x1 x2 x3 x4 x5 hB ⊢
    refine bodyPost_ret (v := .agg #[.int .i64 0, .int .i64 1, .string ⟨#[40]⟩, .int .i64 ((i : Int) + 1), .int .i64 0, .int .i64 0]) (by rw [results_c rfl]; go_simp) rfl ?_
    refine ⟨?_, hB⟩
    rw [← HXX.out, seenV_whole (by simp)]; rfl
  · have x40 : (((s[i]'hi).toNat : Int) == 40) = false := by rw [← hb, beq_eq_false_iff_ne]; omega
    by_cases h41 : byt s i = 41
    · have x41 : (((s[i]'hi).toNat : Int) == 41) = true := by rw [← hb, h41]; rfl
      rw [if_neg h40, if_pos h41] at hX0
      clear h40 h41
      have HXX := hideT hX0
      clear hX0 hb hyi
      have fz := fun o => qT.frozen o
      have t0 := qT.cell 0
      have t1 := qT.cell 1
      have t2 := qT.cell 2
      have t3 := qT.cell 3
      have t4 := qT.cell 4
      have t5 := qT.cell 5
      simp only [List.getElem?_toArray, List.getElem?_cons_zero, List.getElem?_cons_succ] at t0 t1 t2 t3 t4 t5
      go_wp2
      clear fz t0 t1 t2 t3 t4 t5
      obtain ⟨k6, q6⟩ := qT.set6 (.int .i64 0) (.int .i64 2) (.string ⟨#[41]⟩) (.int .i64 ((i : Int) + 1)) (.int .i64 0) (.int .i64 0)
      unfold set6 at k6 q6
      have x0 := q6.cell 0
      have x1 := q6.cell 1
      have x2 := q6.cell 2
      have x3 := q6.cell 3
      have x4 := q6.cell 4
      have x5 := q6.cell 5
      simp only [List.getElem?_toArray, List.getElem?_cons_zero, List.getElem?_cons_succ] at x0 x1 x2 x3 x4 x5
      replace hB := hB.trans ((k6.below (Nat.le_refl _)).mono (Nat.le_refl _))
      clear k6 q6 qT
      generalize ((((((W.setCell ⟨w.heap.size, 0, none⟩ (.int .i64 0)).setCell ⟨w.heap.size, 1, none⟩ (.int .i64 2)).setCell ⟨w.heap.size, 2, none⟩ (.string ⟨#[41]⟩)).setCell ⟨w.heap.size, 3, none⟩ (.int .i64 ((i : Int) + 1))).setCell ⟨w.heap.size, 4, none⟩ (.int .i64 0)).setCell ⟨w.heap.size, 5, none⟩ (.int .i64 0)) = w9 at x0 x1 x2 x3 x4 x5 hB ⊢
      refine bodyPost_ret (v := .agg #[.int .i64 0, .int .i64 2, .string ⟨#[41]⟩, .int .i64 ((i : Int) + 1), .int .i64 0, .int .i64 0]) (by rw [results_c rfl]; go_simp) rfl ?_
      refine ⟨?_, hB⟩
      rw [← HXX.out, seenV_whole (by simp)]; rfl
    · have x41 : (((s[i]'hi).toNat : Int) == 41) = false := by rw [← hb, beq_eq_false_iff_ne]; omega
      by_cases h34 : byt s i = 34
      · have x34 : (((s[i]'hi).toNat : Int) == 34) = true := by rw [← hb, h34]; rfl
        rw [if_neg h40, if_neg h41, if_pos h34] at hX0
        clear h40 h41 h34
        obtain ⟨q0, q1, q2, q3, q4, q5, hv⟩ := seenV_agg s.size i fin (qtP S (i + 1) [])
        have G := hideT (fun W => quoted_is s S HSS.out i fin W hsz hi)
        rw [hv] at G
        have HV := hideT hv
        have HXX := hideT hX0
        clear hv hX0 hb hyi
        go_wp2_with fail
        refine (G.out _).mono ?_
        rintro e w1 ⟨rfl, b1⟩
        replace qT := qT.later b1
        replace hB := hB.trans (b1.mono hB.size)
        clear b1
        have fz := fun o => qT.frozen o
        have t0 := qT.cell 0
        have t1 := qT.cell 1
        have t2 := qT.cell 2
        have t3 := qT.cell 3
        have t4 := qT.cell 4
        have t5 := qT.cell 5
        simp only [List.getElem?_toArray, List.getElem?_cons_zero, List.getElem?_cons_succ] at t0 t1 t2 t3 t4 t5
        go_wp2
        clear fz t0 t1 t2 t3 t4 t5
        obtain ⟨k6, q6⟩ := qT.set6 (.int .i64 q0) (.int .i64 q1) (.string q2) (.int .i64 q3) (.int .i64 q4) (.int .i64 q5)
        unfold set6 at k6 q6
        have x0 := q6.cell 0
        have x1 := q6.cell 1
        have x2 := q6.cell 2
        have x3 := q6.cell 3
        have x4 := q6.cell 4
        have x5 := q6.cell 5
        simp only [List.getElem?_toArray, List.getElem?_cons_zero, List.getElem?_cons_succ] at x0 x1 x2 x3 x4 x5
        replace hB := hB.trans ((k6.below (Nat.le_refl _)).mono (Nat.le_refl _))
        clear k6 q6 qT
        generalize ((((((w1.setCell ⟨w.heap.size, 0, none⟩ (.int .i64 q0)).setCell ⟨w.heap.size, 1, none⟩ (.int .i64 q1)).setCell ⟨w.heap.size, 2, none⟩ (.string q2)).setCell ⟨w.heap.size, 3, none⟩ (.int .i64 q3)).setCell ⟨w.heap.size, 4, none⟩ (.int .i64 q4)).setCell ⟨w.heap.size, 5, none⟩ (.int .i64 q5)) = w9 at x0 x1 x2 x3 x4 x5 hB ⊢
        refine bodyPost_ret (v := .agg #[.int .i64 q0, .int .i64 q1, .string q2, .int .i64 q3, .int .i64 q4, .int .i64 q5]) (by rw [results_c rfl]; go_simp) rfl ?_
        refine ⟨?_, hB⟩
        rw [← HXX.out, HV.out]
      · have x34 : (((s[i]'hi).toNat : Int) == 34) = false := by rw [← hb, beq_eq_false_iff_ne]; omega
        by_cases h124 : byt s i = 124
        · have x124 : (((s[i]'hi).toNat : Int) == 124) = true := by rw [← hb, h124]; rfl
          rw [if_neg h40, if_neg h41, if_neg h34, if_pos h124] at hX0
          clear h40 h41 h34 h124
          obtain ⟨q0, q1, q2, q3, q4, q5, hv⟩ := seenV_agg s.size i fin (barP S i (i + 1))
          have G := hideT (fun W => barred_is s S HSS.out i fin W hsz hi)
          rw [hv] at G
          have HV := hideT hv
          have HXX := hideT hX0
          clear hv hX0 hb hyi
          go_wp2_with fail
          refine (G.out _).mono ?_
          rintro e w1 ⟨rfl, b1⟩
          replace qT := qT.later b1
          replace hB := hB.trans (b1.mono hB.size)
          clear b1
          have fz := fun o => qT.frozen o
          have t0 := qT.cell 0
          have t1 := qT.cell 1
          have t2 := qT.cell 2
          have t3 := qT.cell 3
          have t4 := qT.cell 4
          have t5 := qT.cell 5
          simp only [List.getElem?_toArray, List.getElem?_cons_zero, List.getElem?_cons_succ] at t0 t1 t2 t3 t4 t5
          go_wp2
          clear fz t0 t1 t2 t3 t4 t5
          obtain ⟨k6, q6⟩ := qT.set6 (.int .i64 q0) (.int .i64 q1) (.string q2) (.int .i64 q3) (.int .i64 q4) (.int .i64 q5)
          unfold set6 at k6 q6
          have x0 := q6.cell 0
          have x1 := q6.cell 1
          have x2 := q6.cell 2
          have x3 := q6.cell 3
          have x4 := q6.cell 4
          have x5 := q6.cell 5
          simp only [List.getElem?_toArray, List.getElem?_cons_zero, List.getElem?_cons_succ] at x0 x1 x2 x3 x4 x5
          replace hB := hB.trans ((k6.below (Nat.le_refl _)).mono (Nat.le_refl _))
          clear k6 q6 qT
          generalize ((((((w1.setCell ⟨w.heap.size, 0, none⟩ (.int .i64 q0)).setCell ⟨w.heap.size, 1, none⟩ (.int .i64 q1)).setCell ⟨w.heap.size, 2, none⟩ (.string q2)).setCell ⟨w.heap.size, 3, none⟩ (.int .i64 q3)).setCell ⟨w.heap.size, 4, none⟩ (.int .i64 q4)).setCell ⟨w.heap.size, 5, none⟩ (.int .i64 q5)) = w9 at x0 x1 x2 x3 x4 x5 hB ⊢
          refine bodyPost_ret (v := .agg #[.int .i64 q0, .int .i64 q1, .string q2, .int .i64 q3, .int .i64 q4, .int .i64 q5]) (by rw [results_c rfl]; go_simp) rfl ?_
          refine ⟨?_, hB⟩
          rw [← HXX.out, HV.out]
        · have x124 : (((s[i]'hi).toNat : Int) == 124) = false := by rw [← hb, beq_eq_false_iff_ne]; omega
          by_cases h58 : byt s i = 58
          · have x58 : (((s[i]'hi).toNat : Int) == 58) = true := by rw [← hb, h58]; rfl
            rw [if_neg h40, if_neg h41, if_neg h34, if_neg h124, if_pos h58] at hX0
            clear h40 h41 h34 h124 h58
            obtain ⟨q0, q1, q2, q3, q4, q5, hv⟩ := seenV_agg s.size i fin (keyP S i)
            have G := hideT (fun W => keyword_is s S HSS.out i fin W hsz hi)
            rw [hv] at G
            have HV := hideT hv
            have HXX := hideT hX0
            clear hv hX0 hb hyi
            go_wp2_with fail
            refine (G.out _).mono ?_
            rintro e w1 ⟨rfl, b1⟩
            replace qT := qT.later b1
            replace hB := hB.trans (b1.mono hB.size)
            clear b1
            have fz := fun o => qT.frozen o
            have t0 := qT.cell 0
            have t1 := qT.cell 1
            have t2 := qT.cell 2
            have t3 := qT.cell 3
            have t4 := qT.cell 4
            have t5 := qT.cell 5
            simp only [List.getElem?_toArray, List.getElem?_cons_zero, List.getElem?_cons_succ] at t0 t1 t2 t3 t4 t5
            go_wp2
            clear fz t0 t1 t2 t3 t4 t5
            obtain ⟨k6, q6⟩ := qT.set6 (.int .i64 q0) (.int .i64 q1) (.string q2) (.int .i64 q3) (.int .i64 q4) (.int .i64 q5)
            unfold set6 at k6 q6
            have x0 := q6.cell 0
            have x1 := q6.cell 1
            have x2 := q6.cell 2
            have x3 := q6.cell 3
            have x4 := q6.cell 4
            have x5 := q6.cell 5
            simp only [List.getElem?_toArray, List.getElem?_cons_zero, List.getElem?_cons_succ] at x0 x1 x2 x3 x4 x5
            replace hB := hB.trans ((k6.below (Nat.le_refl _)).mono (Nat.le_refl _))
            clear k6 q6 qT
            generalize ((((((w1.setCell ⟨w.heap.size, 0, none⟩ (.int .i64 q0)).setCell ⟨w.heap.size, 1, none⟩ (.int .i64 q1)).setCell ⟨w.heap.size, 2, none⟩ (.string q2)).setCell ⟨w.heap.size, 3, none⟩ (.int .i64 q3)).setCell ⟨w.heap.size, 4, none⟩ (.int .i64 q4)).setCell ⟨w.heap.size, 5, none⟩ (.int .i64 q5)) = w9 at x0 x1 x2 x3 x4 x5 hB ⊢
            refine bodyPost_ret (v := .agg #[.int .i64 q0, .int .i64 q1, .string q2, .int .i64 q3, .int .i64 q4, .int .i64 q5]) (by rw [results_c rfl]; go_simp) rfl ?_
            refine ⟨?_, hB⟩
            rw [← HXX.out, HV.out]
          · have x58 : (((s[i]'hi).toNat : Int) == 58) = false := by rw [← hb, beq_eq_false_iff_ne]; omega
            by_cases h35 : byt s i = 35
            · have x35 : (((s[i]'hi).toNat : Int) == 35) = true := by rw [← hb, h35]; rfl
              rw [if_neg h40, if_neg h41, if_neg h34, if_neg h124, if_neg h58, if_pos h35] at hX0
              clear h40 h41 h34 h124 h58 h35
              obtain ⟨q0, q1, q2, q3, q4, q5, hv⟩ := seenV_agg s.size i fin (shpP S i)
              have G := hideT (fun W => sharp_is s S HSS.out i fin W hsz hi)
              rw [hv] at G
              have HV := hideT hv
              have HXX := hideT hX0
              clear hv hX0 hb hyi
              go_wp2_with fail
              refine (G.out _).mono ?_
              rintro e w1 ⟨rfl, b1⟩
              replace qT := qT.later b1
              replace hB := hB.trans (b1.mono hB.size)
              clear b1
              have fz := fun o => qT.frozen o
              have t0 := qT.cell 0
              have t1 := qT.cell 1
              have t2 := qT.cell 2
              have t3 := qT.cell 3
              have t4 := qT.cell 4
              have t5 := qT.cell 5
              simp only [List.getElem?_toArray, List.getElem?_cons_zero, List.getElem?_cons_succ] at t0 t1 t2 t3 t4 t5
              go_wp2
              clear fz t0 t1 t2 t3 t4 t5
              obtain ⟨k6, q6⟩ := qT.set6 (.int .i64 q0) (.int .i64 q1) (.string q2) (.int .i64 q3) (.int .i64 q4) (.int .i64 q5)
              unfold set6 at k6 q6
              have x0 := q6.cell 0
              have x1 := q6.cell 1
              have x2 := q6.cell 2
              have x3 := q6.cell 3
              have x4 := q6.cell 4
              have x5 := q6.cell 5
              simp only [List.getElem?_toArray, List.getElem?_cons_zero, List.getElem?_cons_succ] at x0 x1 x2 x3 x4 x5
              replace hB := hB.trans ((k6.below (Nat.le_refl _)).mono (Nat.le_refl _))
              clear k6 q6 qT
              generalize ((((((w1.setCell ⟨w.heap.size, 0, none⟩ (.int .i64 q0)).setCell ⟨w.heap.size, 1, none⟩ (.int .i64 q1)).setCell ⟨w.heap.size, 2, none⟩ (.string q2)).setCell ⟨w.heap.size, 3, none⟩ (.int .i64 q3)).setCell ⟨w.heap.size, 4, none⟩ (.int .i64 q4)).setCell ⟨w.heap.size, 5, none⟩ (.int .i64 q5)) = w9 at x0 x1 x2 x3 x4 x5 hB ⊢
              refine bodyPost_ret (v := .agg #[.int .i64 q0, .int .i64 q1, .string q2, .int .i64 q3, .int .i64 q4, .int .i64 q5]) (by rw [results_c rfl]; go_simp) rfl ?_
              refine ⟨?_, hB⟩
              rw [← HXX.out, HV.out]
            · have x35 : (((s[i]'hi).toNat : Int) == 35) = false := by rw [← hb, beq_eq_false_iff_ne]; omega
              rw [if_neg h40, if_neg h41, if_neg h34, if_neg h124, if_neg h58, if_neg h35] at hX0
              clear h40 h41 h34 h124 h58 h35
              have GD := hideT (fun W => digit_is (byt s i) W)
              have GS := hideT (fun W => symbolByte_is (byt s i) W)
              rcases hd : dgN (byt s i) with _ | _
              · rw [hd, if_neg (by decide)] at hX0
                rw [hd, hb] at GD
                rcases hs : syN (byt s i) with _ | _
                · rw [hs, if_neg (by decide)] at hX0
                  rw [hs, hb] at GS
                  have hX := hX0.symm
                  clear hX0 hb hyi hd hs
                  go_wp2_with fail
                  refine (GD.out _).mono ?_
                  rintro e w1 ⟨rfl, rfl⟩
                  go_wp2_with fail
                  refine (GS.out _).mono ?_
                  rintro e w1 ⟨rfl, rfl⟩
                  have GBD := hideT (fun W => bad_is i W)
                  unfold wrV at GBD
                  go_wp2_with fail
                  refine (GBD.out _).mono ?_
                  rintro e w1 ⟨rfl, b1⟩
                  replace qT := qT.later b1
                  replace hB := hB.trans (b1.mono hB.size)
                  clear b1
                  have fz := fun o => qT.frozen o
                  have t0 := qT.cell 0
                  have t1 := qT.cell 1
                  have t2 := qT.cell 2
                  have t3 := qT.cell 3
                  have t4 := qT.cell 4
                  have t5 := qT.cell 5
                  simp only [List.getElem?_toArray, List.getElem?_cons_zero, List.getElem?_cons_succ] at t0 t1 t2 t3 t4 t5
                  go_wp2
                  clear fz t0 t1 t2 t3 t4 t5
                  obtain ⟨k6, q6⟩ := qT.set6 (.int .i64 2) (.int .i64 0) (.string ⟨#[]⟩) (.int .i64 0) (.int .i64 120) (.int .i64 i)
                  unfold set6 at k6 q6
                  have x0 := q6.cell 0
                  have x1 := q6.cell 1
                  have x2 := q6.cell 2
                  have x3 := q6.cell 3
                  have x4 := q6.cell 4
                  have x5 := q6.cell 5
                  simp only [List.getElem?_toArray, List.getElem?_cons_zero, List.getElem?_cons_succ] at x0 x1 x2 x3 x4 x5
                  replace hB := hB.trans ((k6.below (Nat.le_refl _)).mono (Nat.le_refl _))
                  clear k6 q6 qT
                  generalize ((((((w1.setCell ⟨w.heap.size, 0, none⟩ (.int .i64 2)).setCell ⟨w.heap.size, 1, none⟩ (.int .i64 0)).setCell ⟨w.heap.size, 2, none⟩ (.string ⟨#[]⟩)).setCell ⟨w.heap.size, 3, none⟩ (.int .i64 0)).setCell ⟨w.heap.size, 4, none⟩ (.int .i64 120)).setCell ⟨w.heap.size, 5, none⟩ (.int .i64 i)) = w9 at x0 x1 x2 x3 x4 x5 hB ⊢
                  refine bodyPost_ret (v := .agg #[.int .i64 2, .int .i64 0, .string ⟨#[]⟩, .int .i64 0, .int .i64 120, .int .i64 i]) (by rw [results_c rfl]; go_simp) rfl ?_
                  refine ⟨?_, hB⟩
                  rw [hX]; rfl
                · rw [hs, if_pos rfl] at hX0
                  rw [hs, hb] at GS
                  obtain ⟨e, her⟩ : ∃ e, runE syN S i = e := ⟨_, rfl⟩
                  have hr := runE_spec syN S i (by rw [← HL.out]; omega)
                  rw [her, ← HL.out] at hr
                  obtain ⟨r1, r2, _⟩ := hr
                  have GE_ := hideT (fun W => symEnd_is s S HSS.out i W hsz (by omega))
                  rw [her] at GE_
                  rw [her] at hX0
                  have hX := hX0.symm
                  clear hX0 hb hyi hd hs her
                  go_wp2_with fail
                  refine (GD.out _).mono ?_
                  rintro e w1 ⟨rfl, rfl⟩
                  go_wp2_with fail
                  refine (GS.out _).mono ?_
                  rintro e w1 ⟨rfl, rfl⟩
                  go_wp2_with fail
                  refine (GE_.out _).mono ?_
                  rintro e w1 ⟨rfl, rfl⟩
                  have hsl : ∀ wx : World, (Instr.slice 9 (.string s) (some (.int .i64 ((i : Int)))) (some (.int .i64 ((e : Int)))) none).run Tryz.prog wx = .ok (.string (s.extract (i) (e))) wx := fun wx => by
                    have h := run_slice_string_if (P := Tryz.prog) (w := wx) 9 s .i64 .i64 ((i : Int)) ((e : Int)) Tryz.underlying9
                    rw [if_pos (by omega), if_pos (by omega), show ((i : Int)).toNat = i by omega, show ((e : Int)).toNat = e by omega] at h
                    exact h
                  by_cases he : e = s.size
                  · have xe : ((e : Int) == (s.size : Int)) = true := by rw [beq_iff_eq]; omega
                    have HEE := hideT he
                    clear he
                    cases fin
                    · have GU := hideT (fun W => unless_is 3 (s.extract (i) e) e true false W)
                      rw [if_pos (by simp)] at GU
                      unfold opV at GU
                      go_wp2_with fail
                      refine (GU.out _).mono ?_
                      rintro e w1 ⟨rfl, b1⟩
                      replace qT := qT.later b1
                      replace hB := hB.trans (b1.mono hB.size)
                      clear b1
                      have fz := fun o => qT.frozen o
                      have t0 := qT.cell 0
                      have t1 := qT.cell 1
                      have t2 := qT.cell 2
                      have t3 := qT.cell 3
                      have t4 := qT.cell 4
                      have t5 := qT.cell 5
                      simp only [List.getElem?_toArray, List.getElem?_cons_zero, List.getElem?_cons_succ] at t0 t1 t2 t3 t4 t5
                      go_wp2
                      clear fz t0 t1 t2 t3 t4 t5
                      obtain ⟨k6, q6⟩ := qT.set6 (.int .i64 1) (.int .i64 0) (.string ⟨#[]⟩) (.int .i64 0) (.int .i64 0) (.int .i64 0)
                      unfold set6 at k6 q6
                      have x0 := q6.cell 0
                      have x1 := q6.cell 1
                      have x2 := q6.cell 2
                      have x3 := q6.cell 3
                      have x4 := q6.cell 4
                      have x5 := q6.cell 5
                      simp only [List.getElem?_toArray, List.getElem?_cons_zero, List.getElem?_cons_succ] at x0 x1 x2 x3 x4 x5
                      replace hB := hB.trans ((k6.below (Nat.le_refl _)).mono (Nat.le_refl _))
                      clear k6 q6 qT
                      generalize ((((((w1.setCell ⟨w.heap.size, 0, none⟩ (.int .i64 1)).setCell ⟨w.heap.size, 1, none⟩ (.int .i64 0)).setCell ⟨w.heap.size, 2, none⟩ (.string ⟨#[]⟩)).setCell ⟨w.heap.size, 3, none⟩ (.int .i64 0)).setCell ⟨w.heap.size, 4, none⟩ (.int .i64 0)).setCell ⟨w.heap.size, 5, none⟩ (.int .i64 0)) = w9 at x0 x1 x2 x3 x4 x5 hB ⊢
                      refine bodyPost_ret (v := .agg #[.int .i64 1, .int .i64 0, .string ⟨#[]⟩, .int .i64 0, .int .i64 0, .int .i64 0]) (by rw [results_c rfl]; go_simp) rfl ?_
                      refine ⟨?_, hB⟩
                      rw [hX, seenV_open HEE.out]; rfl
                    · have GU := hideT (fun W => unless_is 3 (s.extract (i) e) e true true W)
                      rw [if_neg (by simp)] at GU
                      unfold whV at GU
                      go_wp2_with fail
                      refine (GU.out _).mono ?_
                      rintro e w1 ⟨rfl, b1⟩
                      replace qT := qT.later b1
                      replace hB := hB.trans (b1.mono hB.size)
                      clear b1
                      have fz := fun o => qT.frozen o
                      have t0 := qT.cell 0
                      have t1 := qT.cell 1
                      have t2 := qT.cell 2
                      have t3 := qT.cell 3
                      have t4 := qT.cell 4
                      have t5 := qT.cell 5
                      simp only [List.getElem?_toArray, List.getElem?_cons_zero, List.getElem?_cons_succ] at t0 t1 t2 t3 t4 t5
                      go_wp2
                      clear fz t0 t1 t2 t3 t4 t5
                      obtain ⟨k6, q6⟩ := qT.set6 (.int .i64 0) (.int .i64 3) (.string (s.extract (i) e)) (.int .i64 e) (.int .i64 0) (.int .i64 0)
                      unfold set6 at k6 q6
                      have x0 := q6.cell 0
                      have x1 := q6.cell 1
                      have x2 := q6.cell 2
                      have x3 := q6.cell 3
                      have x4 := q6.cell 4
                      have x5 := q6.cell 5
                      simp only [List.getElem?_toArray, List.getElem?_cons_zero, List.getElem?_cons_succ] at x0 x1 x2 x3 x4 x5
                      replace hB := hB.trans ((k6.below (Nat.le_refl _)).mono (Nat.le_refl _))
                      clear k6 q6 qT
                      generalize ((((((w1.setCell ⟨w.heap.size, 0, none⟩ (.int .i64 0)).setCell ⟨w.heap.size, 1, none⟩ (.int .i64 3)).setCell ⟨w.heap.size, 2, none⟩ (.string (s.extract (i) e))).setCell ⟨w.heap.size, 3, none⟩ (.int .i64 e)).setCell ⟨w.heap.size, 4, none⟩ (.int .i64 0)).setCell ⟨w.heap.size, 5, none⟩ (.int .i64 0)) = w9 at x0 x1 x2 x3 x4 x5 hB ⊢
                      refine bodyPost_ret (v := .agg #[.int .i64 0, .int .i64 3, .string (s.extract (i) e), .int .i64 e, .int .i64 0, .int .i64 0]) (by rw [results_c rfl]; go_simp) rfl ?_
                      refine ⟨?_, hB⟩
                      rw [hX, seenV_whole (by simp), sub_is HSS.out]; rfl
                  · have xe : ((e : Int) == (s.size : Int)) = false := by rw [beq_eq_false_iff_ne]; omega
                    have HEE := hideT he
                    clear he
                    have GU := hideT (fun W => unless_is 3 (s.extract (i) e) e false fin W)
                    rw [if_neg (by simp)] at GU
                    unfold whV at GU
                    go_wp2_with fail
                    refine (GU.out _).mono ?_
                    rintro e w1 ⟨rfl, b1⟩
                    replace qT := qT.later b1
                    replace hB := hB.trans (b1.mono hB.size)
                    clear b1
                    have fz := fun o => qT.frozen o
                    have t0 := qT.cell 0
                    have t1 := qT.cell 1
                    have t2 := qT.cell 2
                    have t3 := qT.cell 3
                    have t4 := qT.cell 4
                    have t5 := qT.cell 5
                    simp only [List.getElem?_toArray, List.getElem?_cons_zero, List.getElem?_cons_succ] at t0 t1 t2 t3 t4 t5
                    go_wp2
                    clear fz t0 t1 t2 t3 t4 t5
                    obtain ⟨k6, q6⟩ := qT.set6 (.int .i64 0) (.int .i64 3) (.string (s.extract (i) e)) (.int .i64 e) (.int .i64 0) (.int .i64 0)
                    unfold set6 at k6 q6
                    have x0 := q6.cell 0
                    have x1 := q6.cell 1
                    have x2 := q6.cell 2
                    have x3 := q6.cell 3
                    have x4 := q6.cell 4
                    have x5 := q6.cell 5
                    simp only [List.getElem?_toArray, List.getElem?_cons_zero, List.getElem?_cons_succ] at x0 x1 x2 x3 x4 x5
                    replace hB := hB.trans ((k6.below (Nat.le_refl _)).mono (Nat.le_refl _))
                    clear k6 q6 qT
                    generalize ((((((w1.setCell ⟨w.heap.size, 0, none⟩ (.int .i64 0)).setCell ⟨w.heap.size, 1, none⟩ (.int .i64 3)).setCell ⟨w.heap.size, 2, none⟩ (.string (s.extract (i) e))).setCell ⟨w.heap.size, 3, none⟩ (.int .i64 e)).setCell ⟨w.heap.size, 4, none⟩ (.int .i64 0)).setCell ⟨w.heap.size, 5, none⟩ (.int .i64 0)) = w9 at x0 x1 x2 x3 x4 x5 hB ⊢
                    refine bodyPost_ret (v := .agg #[.int .i64 0, .int .i64 3, .string (s.extract (i) e), .int .i64 e, .int .i64 0, .int .i64 0]) (by rw [results_c rfl]; go_simp) rfl ?_
                    refine ⟨?_, hB⟩
                    rw [hX, seenV_whole (fun c => HEE.out c.2.1), sub_is HSS.out]; rfl
              · rw [hd, if_pos rfl] at hX0
                have hdd := hd
                rw [hd, hb] at GD
                have HDD := hideT hdd
                clear hd hdd GS
                obtain ⟨q0, q1, q2, q3, q4, q5, hv⟩ := seenV_agg s.size i fin (numP S i)
                have G := hideT (fun W => number_is s S HSS.out i fin W hsz hi HDD.out)
                rw [hv] at G
                have HV := hideT hv
                have HXX := hideT hX0
                clear hv hX0 hb hyi
                go_wp2_with fail
                refine (GD.out _).mono ?_
                rintro e w1 ⟨rfl, rfl⟩
                go_wp2_with fail
                refine (G.out _).mono ?_
                rintro e w1 ⟨rfl, b1⟩
                replace qT := qT.later b1
                replace hB := hB.trans (b1.mono hB.size)
                clear b1
                have fz := fun o => qT.frozen o
                have t0 := qT.cell 0
                have t1 := qT.cell 1
                have t2 := qT.cell 2
                have t3 := qT.cell 3
                have t4 := qT.cell 4
                have t5 := qT.cell 5
                simp only [List.getElem?_toArray, List.getElem?_cons_zero, List.getElem?_cons_succ] at t0 t1 t2 t3 t4 t5
                go_wp2
                clear fz t0 t1 t2 t3 t4 t5
                obtain ⟨k6, q6⟩ := qT.set6 (.int .i64 q0) (.int .i64 q1) (.string q2) (.int .i64 q3) (.int .i64 q4) (.int .i64 q5)
                unfold set6 at k6 q6
                have x0 := q6.cell 0
                have x1 := q6.cell 1
                have x2 := q6.cell 2
                have x3 := q6.cell 3
                have x4 := q6.cell 4
                have x5 := q6.cell 5
                simp only [List.getElem?_toArray, List.getElem?_cons_zero, List.getElem?_cons_succ] at x0 x1 x2 x3 x4 x5
                replace hB := hB.trans ((k6.below (Nat.le_refl _)).mono (Nat.le_refl _))
                clear k6 q6 qT
                generalize ((((((w1.setCell ⟨w.heap.size, 0, none⟩ (.int .i64 q0)).setCell ⟨w.heap.size, 1, none⟩ (.int .i64 q1)).setCell ⟨w.heap.size, 2, none⟩ (.string q2)).setCell ⟨w.heap.size, 3, none⟩ (.int .i64 q3)).setCell ⟨w.heap.size, 4, none⟩ (.int .i64 q4)).setCell ⟨w.heap.size, 5, none⟩ (.int .i64 q5)) = w9 at x0 x1 x2 x3 x4 x5 hB ⊢
                refine bodyPost_ret (v := .agg #[.int .i64 q0, .int .i64 q1, .string q2, .int .i64 q3, .int .i64 q4, .int .i64 q5]) (by rw [results_c rfl]; go_simp) rfl ?_
                refine ⟨?_, hB⟩
                rw [← HXX.out, HV.out]

end Go.Proofs.YtpfmamimhhnbiaaGreatDoor
