/-
  The reference's sharp.
-/
import Derived.Test.YtpfmamimhhnbiaaGreatDoorTR4
namespace Go.Proofs.YtpfmamimhhnbiaaGreatDoor
open Go.RowKit
set_option linter.unusedVariables false
set_option linter.unusedSimpArgs false
set_option maxHeartbeats 4000000 in
set_option maxRecDepth 100000 in
theorem sharp_is (s : ByteArray) (S : List UInt8) (hS : s.data.toList = S) (i : Nat) (fin : Bool) (w : World) (hsz : s.size ≤ 4294967280) (hi : i < s.size) : Calls Tryz.prog 70 #[.string s, .int .i64 i, .bool fin] w fun r w' => r = .returned (seenV s.size i fin (shpP S i)) ∧ Below w.heap.size w w' := by
  have hy := fun k (h : k < s.size) => byS_byt h
  have hsl : s.size = S.length := by rw [← hS, Array.length_toList]; rfl
  rw [hS] at hy
  have HSS := hideT hS
  clear hS
  have HY := hideT hy
  have HL := hideT hsl
  clear hy hsl
  obtain ⟨X, hX⟩ : ∃ X, shpP S i = X := ⟨_, rfl⟩
  rw [hX]
  have HX := hideT hX
  clear hX
  have hB := below_alloc (w := w) (.cells #[.int .i64 0, .int .i64 0, .string ⟨#[]⟩, .int .i64 0, .int .i64 0, .int .i64 0] 79)
  have qT := Blk.new w #[.int .i64 0, .int .i64 0, .string ⟨#[]⟩, .int .i64 0, .int .i64 0, .int .i64 0] 79
  have eW : (w.alloc (.cells #[.int .i64 0, .int .i64 0, .string ⟨#[]⟩, .int .i64 0, .int .i64 0, .int .i64 0] 79)).heap.size = w.heap.size + 1 := by simp
  go_enter Tryz.func70, Tryz.ntmps70
  go_upto_region 1 with fail
  generalize w.alloc (.cells #[.int .i64 0, .int .i64 0, .string ⟨#[]⟩, .int .i64 0, .int .i64 0, .int .i64 0] 79) = W at hB qT eW ⊢
  by_cases h1 : i + 1 = s.size
  · have x1 : (((i : Int) + 1) == (s.size : Int)) = true := by rw [beq_iff_eq]; omega
    have hX : X = .half 120 := by rw [← HX.out]; unfold shpP; rw [if_pos (by rw [← HL.out]; exact h1)]
    clear h1
    cases fin
    · skip
      have fz := fun o => qT.frozen o
      have t0 := qT.cell 0
      have t1 := qT.cell 1
      have t2 := qT.cell 2
      have t3 := qT.cell 3
      have t4 := qT.cell 4
      have t5 := qT.cell 5
      simp only [List.getElem?_toArray, List.getElem?_cons_zero, List.getElem?_cons_succ] at t0 t1 t2 t3 t4 t5
      go_wp2
      clear fz t0 t1 t2 t3 t4 t5
      obtain ⟨k6, q6⟩ := qT.set6 (.int .i64 1) (.int .i64 0) (.string ⟨#[]⟩) (.int .i64 0) (.int .i64 0) (.int .i64 0)
      unfold set6 at k6 q6
      have x0 := q6.cell 0
      have x1 := q6.cell 1
      have x2 := q6.cell 2
      have x3 := q6.cell 3
      have x4 := q6.cell 4
      have x5 := q6.cell 5
      simp only [List.getElem?_toArray, List.getElem?_cons_zero, List.getElem?_cons_succ] at x0 x1 x2 x3 x4 x5
      replace hB := hB.trans ((k6.below (Nat.le_refl _)).mono (Nat.le_refl _))
      clear k6 q6 qT
      generalize ((((((W.setCell ⟨w.heap.size, 0, none⟩ (.int .i64 1)).setCell ⟨w.heap.size, 1, none⟩ (.int .i64 0)).setCell ⟨w.heap.size, 2, none⟩ (.string ⟨#[]⟩)).setCell ⟨w.heap.size, 3, none⟩ (.int .i64 0)).setCell ⟨w.heap.size, 4, none⟩ (.int .i64 0)).setCell ⟨w.heap.size, 5, none⟩ (.int .i64 0)) = w9 at x0 x1 x2 x3 x4 x5 hB ⊢
      refine bodyPost_ret (v := .agg #[.int .i64 1, .int .i64 0, .string ⟨#[]⟩, .int .i64 0, .int .i64 0, .int .i64 0]) (by rw [results_c rfl]; go_simp) rfl ?_
      refine ⟨?_, hB⟩
      rw [hX]; rfl
    · skip
      have GBD := hideT (fun W => bad_is i W)
      unfold wrV at GBD
      go_wp2_with fail
      refine (GBD.out _).mono ?_
      rintro e w1 ⟨rfl, b1⟩
      replace qT := qT.later b1
      replace hB := hB.trans (b1.mono hB.size)
      clear b1
      have fz := fun o => qT.frozen o
      have t0 := qT.cell 0
      have t1 := qT.cell 1
      have t2 := qT.cell 2
      have t3 := qT.cell 3
      have t4 := qT.cell 4
      have t5 := qT.cell 5
      simp only [List.getElem?_toArray, List.getElem?_cons_zero, List.getElem?_cons_succ] at t0 t1 t2 t3 t4 t5
      go_wp2
      clear fz t0 t1 t2 t3 t4 t5
      obtain ⟨k6, q6⟩ := qT.set6 (.int .i64 2) (.int .i64 0) (.string ⟨#[]⟩) (.int .i64 0) (.int .i64 120) (.int .i64 i)
      unfold set6 at k6 q6
      have x0 := q6.cell 0
      have x1 := q6.cell 1
      have x2 := q6.cell 2
      have x3 := q6.cell 3
      have x4 := q6.cell 4
      have x5 := q6.cell 5
      simp only [List.getElem?_toArray, List.getElem?_cons_zero, List.getElem?_cons_succ] at x0 x1 x2 x3 x4 x5
      replace hB := hB.trans ((k6.below (Nat.le_refl _)).mono (Nat.le_refl _))
      clear k6 q6 qT
      generalize ((((((w1.setCell ⟨w.heap.size, 0, none⟩ (.int .i64 2)).setCell ⟨w.heap.size, 1, none⟩ (.int .i64 0)).setCell ⟨w.heap.size, 2, none⟩ (.string ⟨#[]⟩)).setCell ⟨w.heap.size, 3, none⟩ (.int .i64 0)).setCell ⟨w.heap.size, 4, none⟩ (.int .i64 120)).setCell ⟨w.heap.size, 5, none⟩ (.int .i64 i)) = w9 at x0 x1 x2 x3 x4 x5 hB ⊢
      refine bodyPost_ret (v := .agg #[.int .i64 2, .int .i64 0, .string ⟨#[]⟩, .int .i64 0, .int .i64 120, .int .i64 i]) (by rw [results_c rfl]; go_simp) rfl ?_
      refine ⟨?_, hB⟩
      rw [hX]; rfl
  · have x1 : (((i : Int) + 1) == (s.size : Int)) = false := by rw [beq_eq_false_iff_ne]; omega
    have hl1 : i + 1 < s.size := by omega
    have hb1 := byt_of hl1
    have hy1 := HY.out (i + 1) hl1
    have hnl : ¬ i + 1 = S.length := by rw [← HL.out]; exact h1
    clear h1
    by_cases hc : byt s (i + 1) = 120
    · skip
      have HC := hideT (show (120 : Int) = (((s[i + 1]'hl1).toNat : Nat) : Int) by rw [← hb1]; omega)
      have z120 : (((s[i + 1]'hl1).toNat : Int) != 120) = false := by rw [← hb1, hc]; rfl
      have z98 : (((s[i + 1]'hl1).toNat : Int) != 98) = true := by rw [← hb1, bne_iff_ne]; omega
      have y98 : (((s[i + 1]'hl1).toNat : Int) == 98) = false := by rw [← hb1, beq_eq_false_iff_ne]; omega
      obtain ⟨e, her⟩ : ∃ e, runE hxN S (i + 2) = e := ⟨_, rfl⟩
      have hr := runE_spec hxN S (i + 2) (by rw [← HL.out]; omega)
      rw [her, ← HL.out] at hr
      obtain ⟨r1, r2, _⟩ := hr
      have hX0 : X = shqP S i 7 e := by rw [← HX.out]; unfold shpP; rw [if_neg hnl, if_pos (by rw [hy1]; exact hc), her]
      unfold shqP at hX0
      rw [← HL.out] at hX0
      have HX0 := hideT hX0
      have GE_ := hideT (fun W => digEnd_x s S HSS.out (i + 2) W hsz (by omega))
      rw [her, show ((i + 2 : Nat) : Int) = (i : Int) + 2 by omega, HC.out] at GE_
      clear hc hb1 hy1 hnl her HX hX0 HC
      go_wp2_with fail
      refine (GE_.out _).mono ?_
      rintro e w1 ⟨rfl, rfl⟩
      by_cases he : e = s.size
      · have xe : ((e : Int) == (s.size : Int)) = true := by rw [beq_iff_eq]; omega
        have hX1 := HX0.out
        rw [if_pos he] at hX1
        have xl : ¬ ((e : Int) < (s.size : Int)) := by omega
        have HEE := hideT he
        clear he
        cases fin
        · have hV : seenV s.size i false X = opV := by
            rw [hX1]
            split
            · rfl
            · exact seenV_open HEE.out
          clear hX1
          have fz := fun o => qT.frozen o
          have t0 := qT.cell 0
          have t1 := qT.cell 1
          have t2 := qT.cell 2
          have t3 := qT.cell 3
          have t4 := qT.cell 4
          have t5 := qT.cell 5
          simp only [List.getElem?_toArray, List.getElem?_cons_zero, List.getElem?_cons_succ] at t0 t1 t2 t3 t4 t5
          go_wp2
          clear fz t0 t1 t2 t3 t4 t5
          obtain ⟨k6, q6⟩ := qT.set6 (.int .i64 1) (.int .i64 0) (.string ⟨#[]⟩) (.int .i64 0) (.int .i64 0) (.int .i64 0)
          unfold set6 at k6 q6
          have x0 := q6.cell 0
          have x1 := q6.cell 1
          have x2 := q6.cell 2
          have x3 := q6.cell 3
          have x4 := q6.cell 4
          have x5 := q6.cell 5
          simp only [List.getElem?_toArray, List.getElem?_cons_zero, List.getElem?_cons_succ] at x0 x1 x2 x3 x4 x5
          replace hB := hB.trans ((k6.below (Nat.le_refl _)).mono (Nat.le_refl _))
          clear k6 q6 qT
          generalize ((((((w1.setCell ⟨w.heap.size, 0, none⟩ (.int .i64 1)).setCell ⟨w.heap.size, 1, none⟩ (.int .i64 0)).setCell ⟨w.heap.size, 2, none⟩ (.string ⟨#[]⟩)).setCell ⟨w.heap.size, 3, none⟩ (.int .i64 0)).setCell ⟨w.heap.size, 4, none⟩ (.int .i64 0)).setCell ⟨w.heap.size, 5, none⟩ (.int .i64 0)) = w9 at x0 x1 x2 x3 x4 x5 hB ⊢
          refine bodyPost_ret (v := .agg #[.int .i64 1, .int .i64 0, .string ⟨#[]⟩, .int .i64 0, .int .i64 0, .int .i64 0]) (by rw [results_c rfl]; go_simp) rfl ?_
          refine ⟨?_, hB⟩
          rw [hV]; rfl
        · by_cases h2 : e = i + 2
          · have x2 : ((e : Int) == (i : Int) + 2) = true := by rw [beq_iff_eq]; omega
            rw [if_pos h2] at hX1
            clear h2
            have GBD := hideT (fun W => bad_is i W)
            unfold wrV at GBD
            go_wp2_with fail
            refine (GBD.out _).mono ?_
            rintro e w1 ⟨rfl, b1⟩
            replace qT := qT.later b1
            replace hB := hB.trans (b1.mono hB.size)
            clear b1
            have fz := fun o => qT.frozen o
            have t0 := qT.cell 0
            have t1 := qT.cell 1
            have t2 := qT.cell 2
            have t3 := qT.cell 3
            have t4 := qT.cell 4
            have t5 := qT.cell 5
            simp only [List.getElem?_toArray, List.getElem?_cons_zero, List.getElem?_cons_succ] at t0 t1 t2 t3 t4 t5
            go_wp2
            clear fz t0 t1 t2 t3 t4 t5
            obtain ⟨k6, q6⟩ := qT.set6 (.int .i64 2) (.int .i64 0) (.string ⟨#[]⟩) (.int .i64 0) (.int .i64 120) (.int .i64 i)
            unfold set6 at k6 q6
            have x0 := q6.cell 0
            have x1 := q6.cell 1
            have x2 := q6.cell 2
            have x3 := q6.cell 3
            have x4 := q6.cell 4
            have x5 := q6.cell 5
            simp only [List.getElem?_toArray, List.getElem?_cons_zero, List.getElem?_cons_succ] at x0 x1 x2 x3 x4 x5
            replace hB := hB.trans ((k6.below (Nat.le_refl _)).mono (Nat.le_refl _))
            clear k6 q6 qT
            generalize ((((((w1.setCell ⟨w.heap.size, 0, none⟩ (.int .i64 2)).setCell ⟨w.heap.size, 1, none⟩ (.int .i64 0)).setCell ⟨w.heap.size, 2, none⟩ (.string ⟨#[]⟩)).setCell ⟨w.heap.size, 3, none⟩ (.int .i64 0)).setCell ⟨w.heap.size, 4, none⟩ (.int .i64 120)).setCell ⟨w.heap.size, 5, none⟩ (.int .i64 i)) = w9 at x0 x1 x2 x3 x4 x5 hB ⊢
            refine bodyPost_ret (v := .agg #[.int .i64 2, .int .i64 0, .string ⟨#[]⟩, .int .i64 0, .int .i64 120, .int .i64 i]) (by rw [results_c rfl]; go_simp) rfl ?_
            refine ⟨?_, hB⟩
            rw [hX1]; rfl
          · have x2 : ((e : Int) == (i : Int) + 2) = false := by rw [beq_eq_false_iff_ne]; omega
            rw [if_neg h2] at hX1
            clear h2
            have hsl : ∀ wx : World, (Instr.slice 9 (.string s) (some (.int .i64 ((i : Int) + 2))) (some (.int .i64 ((e : Int)))) none).run Tryz.prog wx = .ok (.string (s.extract (i + 2) (e))) wx := fun wx => by
              have h := run_slice_string_if (P := Tryz.prog) (w := wx) 9 s .i64 .i64 ((i : Int) + 2) ((e : Int)) Tryz.underlying9
              rw [if_pos (by omega), if_pos (by omega), show ((i : Int) + 2).toNat = i + 2 by omega, show ((e : Int)).toNat = e by omega] at h
              exact h
            have fz := fun o => qT.frozen o
            have t0 := qT.cell 0
            have t1 := qT.cell 1
            have t2 := qT.cell 2
            have t3 := qT.cell 3
            have t4 := qT.cell 4
            have t5 := qT.cell 5
            simp only [List.getElem?_toArray, List.getElem?_cons_zero, List.getElem?_cons_succ] at t0 t1 t2 t3 t4 t5
            go_wp2
            clear fz t0 t1 t2 t3 t4 t5
            obtain ⟨k6, q6⟩ := qT.set6 (.int .i64 0) (.int .i64 7) (.string (s.extract (i + 2) e)) (.int .i64 e) (.int .i64 0) (.int .i64 0)
            unfold set6 at k6 q6
            have x0 := q6.cell 0
            have x1 := q6.cell 1
            have x2 := q6.cell 2
            have x3 := q6.cell 3
            have x4 := q6.cell 4
            have x5 := q6.cell 5
            simp only [List.getElem?_toArray, List.getElem?_cons_zero, List.getElem?_cons_succ] at x0 x1 x2 x3 x4 x5
            replace hB := hB.trans ((k6.below (Nat.le_refl _)).mono (Nat.le_refl _))
            clear k6 q6 qT
            generalize ((((((w1.setCell ⟨w.heap.size, 0, none⟩ (.int .i64 0)).setCell ⟨w.heap.size, 1, none⟩ (.int .i64 7)).setCell ⟨w.heap.size, 2, none⟩ (.string (s.extract (i + 2) e))).setCell ⟨w.heap.size, 3, none⟩ (.int .i64 e)).setCell ⟨w.heap.size, 4, none⟩ (.int .i64 0)).setCell ⟨w.heap.size, 5, none⟩ (.int .i64 0)) = w9 at x0 x1 x2 x3 x4 x5 hB ⊢
            refine bodyPost_ret (v := .agg #[.int .i64 0, .int .i64 7, .string (s.extract (i + 2) e), .int .i64 e, .int .i64 0, .int .i64 0]) (by rw [results_c rfl]; go_simp) rfl ?_
            refine ⟨?_, hB⟩
            rw [hX1, seenV_whole (by simp), sub_is HSS.out]; rfl
      · have xe : ((e : Int) == (s.size : Int)) = false := by rw [beq_eq_false_iff_ne]; omega
        have hX1 := HX0.out
        rw [if_neg he] at hX1
        have xl : ((e : Int) < (s.size : Int)) := by omega
        have hle : e < s.size := by omega
        have HEE := hideT he
        clear he
        by_cases h2 : e = i + 2
        · have x2 : ((e : Int) == (i : Int) + 2) = true := by rw [beq_iff_eq]; omega
          rw [if_pos (Or.inl h2)] at hX1
          clear h2
          have GBD := hideT (fun W => bad_is i W)
          unfold wrV at GBD
          go_wp2_with fail
          refine (GBD.out _).mono ?_
          rintro e w1 ⟨rfl, b1⟩
          replace qT := qT.later b1
          replace hB := hB.trans (b1.mono hB.size)
          clear b1
          have fz := fun o => qT.frozen o
          have t0 := qT.cell 0
          have t1 := qT.cell 1
          have t2 := qT.cell 2
          have t3 := qT.cell 3
          have t4 := qT.cell 4
          have t5 := qT.cell 5
          simp only [List.getElem?_toArray, List.getElem?_cons_zero, List.getElem?_cons_succ] at t0 t1 t2 t3 t4 t5
          go_wp2
          clear fz t0 t1 t2 t3 t4 t5
          obtain ⟨k6, q6⟩ := qT.set6 (.int .i64 2) (.int .i64 0) (.string ⟨#[]⟩) (.int .i64 0) (.int .i64 120) (.int .i64 i)
          unfold set6 at k6 q6
          have x0 := q6.cell 0
          have x1 := q6.cell 1
          have x2 := q6.cell 2
          have x3 := q6.cell 3
          have x4 := q6.cell 4
          have x5 := q6.cell 5
          simp only [List.getElem?_toArray, List.getElem?_cons_zero, List.getElem?_cons_succ] at x0 x1 x2 x3 x4 x5
          replace hB := hB.trans ((k6.below (Nat.le_refl _)).mono (Nat.le_refl _))
          clear k6 q6 qT
          generalize ((((((w1.setCell ⟨w.heap.size, 0, none⟩ (.int .i64 2)).setCell ⟨w.heap.size, 1, none⟩ (.int .i64 0)).setCell ⟨w.heap.size, 2, none⟩ (.string ⟨#[]⟩)).setCell ⟨w.heap.size, 3, none⟩ (.int .i64 0)).setCell ⟨w.heap.size, 4, none⟩ (.int .i64 120)).setCell ⟨w.heap.size, 5, none⟩ (.int .i64 i)) = w9 at x0 x1 x2 x3 x4 x5 hB ⊢
          refine bodyPost_ret (v := .agg #[.int .i64 2, .int .i64 0, .string ⟨#[]⟩, .int .i64 0, .int .i64 120, .int .i64 i]) (by rw [results_c rfl]; go_simp) rfl ?_
          refine ⟨?_, hB⟩
          rw [hX1]; rfl
        · have x2 : ((e : Int) == (i : Int) + 2) = false := by rw [beq_eq_false_iff_ne]; omega
          have hbe := byt_of hle
          have hye := HY.out e hle
          have GS := hideT (fun W => symbolByte_is (byt s e) W)
          rcases hs : syN (byt s e) with _ | _
          · rw [if_neg (by rw [hye, hs]; simp [h2])] at hX1
            rw [hs, hbe] at GS
            clear hs hbe hye h2
            have hsl : ∀ wx : World, (Instr.slice 9 (.string s) (some (.int .i64 ((i : Int) + 2))) (some (.int .i64 ((e : Int)))) none).run Tryz.prog wx = .ok (.string (s.extract (i + 2) (e))) wx := fun wx => by
              have h := run_slice_string_if (P := Tryz.prog) (w := wx) 9 s .i64 .i64 ((i : Int) + 2) ((e : Int)) Tryz.underlying9
              rw [if_pos (by omega), if_pos (by omega), show ((i : Int) + 2).toNat = i + 2 by omega, show ((e : Int)).toNat = e by omega] at h
              exact h
            go_wp2_with fail
            refine (GS.out _).mono ?_
            rintro e w1 ⟨rfl, rfl⟩
            have fz := fun o => qT.frozen o
            have t0 := qT.cell 0
            have t1 := qT.cell 1
            have t2 := qT.cell 2
            have t3 := qT.cell 3
            have t4 := qT.cell 4
            have t5 := qT.cell 5
            simp only [List.getElem?_toArray, List.getElem?_cons_zero, List.getElem?_cons_succ] at t0 t1 t2 t3 t4 t5
            go_wp2
            clear fz t0 t1 t2 t3 t4 t5
            obtain ⟨k6, q6⟩ := qT.set6 (.int .i64 0) (.int .i64 7) (.string (s.extract (i + 2) e)) (.int .i64 e) (.int .i64 0) (.int .i64 0)
            unfold set6 at k6 q6
            have x0 := q6.cell 0
            have x1 := q6.cell 1
            have x2 := q6.cell 2
            have x3 := q6.cell 3
            have x4 := q6.cell 4
            have x5 := q6.cell 5
            simp only [List.getElem?_toArray, List.getElem?_cons_zero, List.getElem?_cons_succ] at x0 x1 x2 x3 x4 x5
            replace hB := hB.trans ((k6.below (Nat.le_refl _)).mono (Nat.le_refl _))
            clear k6 q6 qT
            generalize ((((((w1.setCell ⟨w.heap.size, 0, none⟩ (.int .i64 0)).setCell ⟨w.heap.size, 1, none⟩ (.int .i64 7)).setCell ⟨w.heap.size, 2, none⟩ (.string (s.extract (i + 2) e))).setCell ⟨w.heap.size, 3, none⟩ (.int .i64 e)).setCell ⟨w.heap.size, 4, none⟩ (.int .i64 0)).setCell ⟨w.heap.size, 5, none⟩ (.int .i64 0)) = w9 at x0 x1 x2 x3 x4 x5 hB ⊢
            refine bodyPost_ret (v := .agg #[.int .i64 0, .int .i64 7, .string (s.extract (i + 2) e), .int .i64 e, .int .i64 0, .int .i64 0]) (by rw [results_c rfl]; go_simp) rfl ?_
            refine ⟨?_, hB⟩
            rw [hX1, seenV_whole (fun c => HEE.out c.2.1), sub_is HSS.out]; rfl
          · rw [if_pos (Or.inr (by rw [hye]; exact hs))] at hX1
            rw [hs, hbe] at GS
            clear hs hbe hye h2
            go_wp2_with fail
            refine (GS.out _).mono ?_
            rintro e w1 ⟨rfl, rfl⟩
            have GBD := hideT (fun W => bad_is i W)
            unfold wrV at GBD
            go_wp2_with fail
            refine (GBD.out _).mono ?_
            rintro e w1 ⟨rfl, b1⟩
            replace qT := qT.later b1
            replace hB := hB.trans (b1.mono hB.size)
            clear b1
            have fz := fun o => qT.frozen o
            have t0 := qT.cell 0
            have t1 := qT.cell 1
            have t2 := qT.cell 2
            have t3 := qT.cell 3
            have t4 := qT.cell 4
            have t5 := qT.cell 5
            simp only [List.getElem?_toArray, List.getElem?_cons_zero, List.getElem?_cons_succ] at t0 t1 t2 t3 t4 t5
            go_wp2
            clear fz t0 t1 t2 t3 t4 t5
            obtain ⟨k6, q6⟩ := qT.set6 (.int .i64 2) (.int .i64 0) (.string ⟨#[]⟩) (.int .i64 0) (.int .i64 120) (.int .i64 i)
            unfold set6 at k6 q6
            have x0 := q6.cell 0
            have x1 := q6.cell 1
            have x2 := q6.cell 2
            have x3 := q6.cell 3
            have x4 := q6.cell 4
            have x5 := q6.cell 5
            simp only [List.getElem?_toArray, List.getElem?_cons_zero, List.getElem?_cons_succ] at x0 x1 x2 x3 x4 x5
            replace hB := hB.trans ((k6.below (Nat.le_refl _)).mono (Nat.le_refl _))
            clear k6 q6 qT
            generalize ((((((w1.setCell ⟨w.heap.size, 0, none⟩ (.int .i64 2)).setCell ⟨w.heap.size, 1, none⟩ (.int .i64 0)).setCell ⟨w.heap.size, 2, none⟩ (.string ⟨#[]⟩)).setCell ⟨w.heap.size, 3, none⟩ (.int .i64 0)).setCell ⟨w.heap.size, 4, none⟩ (.int .i64 120)).setCell ⟨w.heap.size, 5, none⟩ (.int .i64 i)) = w9 at x0 x1 x2 x3 x4 x5 hB ⊢
            refine bodyPost_ret (v := .agg #[.int .i64 2, .int .i64 0, .string ⟨#[]⟩, .int .i64 0, .int .i64 120, .int .i64 i]) (by rw [results_c rfl]; go_simp) rfl ?_
            refine ⟨?_, hB⟩
            rw [hX1]; rfl
    · have h120 := hc
      clear hc
      by_cases hc : byt s (i + 1) = 98
      · clear h120
        have HC := hideT (show (98 : Int) = (((s[i + 1]'hl1).toNat : Nat) : Int) by rw [← hb1]; omega)
        have z120 : (((s[i + 1]'hl1).toNat : Int) != 120) = true := by rw [← hb1, bne_iff_ne]; omega
        have z98 : (((s[i + 1]'hl1).toNat : Int) != 98) = false := by rw [← hb1, hc]; rfl
        have y98 : (((s[i + 1]'hl1).toNat : Int) == 98) = true := by rw [← hb1, hc]; rfl
        obtain ⟨e, her⟩ : ∃ e, runE biN S (i + 2) = e := ⟨_, rfl⟩
        have hr := runE_spec biN S (i + 2) (by rw [← HL.out]; omega)
        rw [her, ← HL.out] at hr
        obtain ⟨r1, r2, _⟩ := hr
        have hX0 : X = shqP S i 8 e := by rw [← HX.out]; unfold shpP; rw [if_neg hnl, if_neg (by rw [hy1, hc]; decide), if_pos (by rw [hy1]; exact hc), her]
        unfold shqP at hX0
        rw [← HL.out] at hX0
        have HX0 := hideT hX0
        have GE_ := hideT (fun W => digEnd_b s S HSS.out (i + 2) W hsz (by omega))
        rw [her, show ((i + 2 : Nat) : Int) = (i : Int) + 2 by omega, HC.out] at GE_
        clear hc hb1 hy1 hnl her HX hX0 HC
        go_wp2_with fail
        refine (GE_.out _).mono ?_
        rintro e w1 ⟨rfl, rfl⟩
        by_cases he : e = s.size
        · have xe : ((e : Int) == (s.size : Int)) = true := by rw [beq_iff_eq]; omega
          have hX1 := HX0.out
          rw [if_pos he] at hX1
          have xl : ¬ ((e : Int) < (s.size : Int)) := by omega
          have HEE := hideT he
          clear he
          cases fin
          · have hV : seenV s.size i false X = opV := by
              rw [hX1]
              split
              · rfl
              · exact seenV_open HEE.out
            clear hX1
            have fz := fun o => qT.frozen o
            have t0 := qT.cell 0
            have t1 := qT.cell 1
            have t2 := qT.cell 2
            have t3 := qT.cell 3
            have t4 := qT.cell 4
            have t5 := qT.cell 5
            simp only [List.getElem?_toArray, List.getElem?_cons_zero, List.getElem?_cons_succ] at t0 t1 t2 t3 t4 t5
            go_wp2
            clear fz t0 t1 t2 t3 t4 t5
            obtain ⟨k6, q6⟩ := qT.set6 (.int .i64 1) (.int .i64 0) (.string ⟨#[]⟩) (.int .i64 0) (.int .i64 0) (.int .i64 0)
            unfold set6 at k6 q6
            have x0 := q6.cell 0
            have x1 := q6.cell 1
            have x2 := q6.cell 2
            have x3 := q6.cell 3
            have x4 := q6.cell 4
            have x5 := q6.cell 5
            simp only [List.getElem?_toArray, List.getElem?_cons_zero, List.getElem?_cons_succ] at x0 x1 x2 x3 x4 x5
            replace hB := hB.trans ((k6.below (Nat.le_refl _)).mono (Nat.le_refl _))
            clear k6 q6 qT
            generalize ((((((w1.setCell ⟨w.heap.size, 0, none⟩ (.int .i64 1)).setCell ⟨w.heap.size, 1, none⟩ (.int .i64 0)).setCell ⟨w.heap.size, 2, none⟩ (.string ⟨#[]⟩)).setCell ⟨w.heap.size, 3, none⟩ (.int .i64 0)).setCell ⟨w.heap.size, 4, none⟩ (.int .i64 0)).setCell ⟨w.heap.size, 5, none⟩ (.int .i64 0)) = w9 at x0 x1 x2 x3 x4 x5 hB ⊢
            refine bodyPost_ret (v := .agg #[.int .i64 1, .int .i64 0, .string ⟨#[]⟩, .int .i64 0, .int .i64 0, .int .i64 0]) (by rw [results_c rfl]; go_simp) rfl ?_
            refine ⟨?_, hB⟩
            rw [hV]; rfl
          · by_cases h2 : e = i + 2
            · have x2 : ((e : Int) == (i : Int) + 2) = true := by rw [beq_iff_eq]; omega
              rw [if_pos h2] at hX1
              clear h2
              have GBD := hideT (fun W => bad_is i W)
              unfold wrV at GBD
              go_wp2_with fail
              refine (GBD.out _).mono ?_
              rintro e w1 ⟨rfl, b1⟩
              replace qT := qT.later b1
              replace hB := hB.trans (b1.mono hB.size)
              clear b1
              have fz := fun o => qT.frozen o
              have t0 := qT.cell 0
              have t1 := qT.cell 1
              have t2 := qT.cell 2
              have t3 := qT.cell 3
              have t4 := qT.cell 4
              have t5 := qT.cell 5
              simp only [List.getElem?_toArray, List.getElem?_cons_zero, List.getElem?_cons_succ] at t0 t1 t2 t3 t4 t5
              go_wp2
              clear fz t0 t1 t2 t3 t4 t5
              obtain ⟨k6, q6⟩ := qT.set6 (.int .i64 2) (.int .i64 0) (.string ⟨#[]⟩) (.int .i64 0) (.int .i64 120) (.int .i64 i)
              unfold set6 at k6 q6
              have x0 := q6.cell 0
              have x1 := q6.cell 1
              have x2 := q6.cell 2
              have x3 := q6.cell 3
              have x4 := q6.cell 4
              have x5 := q6.cell 5
              simp only [List.getElem?_toArray, List.getElem?_cons_zero, List.getElem?_cons_succ] at x0 x1 x2 x3 x4 x5
              replace hB := hB.trans ((k6.below (Nat.le_refl _)).mono (Nat.le_refl _))
              clear k6 q6 qT
              generalize ((((((w1.setCell ⟨w.heap.size, 0, none⟩ (.int .i64 2)).setCell ⟨w.heap.size, 1, none⟩ (.int .i64 0)).setCell ⟨w.heap.size, 2, none⟩ (.string ⟨#[]⟩)).setCell ⟨w.heap.size, 3, none⟩ (.int .i64 0)).setCell ⟨w.heap.size, 4, none⟩ (.int .i64 120)).setCell ⟨w.heap.size, 5, none⟩ (.int .i64 i)) = w9 at x0 x1 x2 x3 x4 x5 hB ⊢
              refine bodyPost_ret (v := .agg #[.int .i64 2, .int .i64 0, .string ⟨#[]⟩, .int .i64 0, .int .i64 120, .int .i64 i]) (by rw [results_c rfl]; go_simp) rfl ?_
              refine ⟨?_, hB⟩
              rw [hX1]; rfl
            · have x2 : ((e : Int) == (i : Int) + 2) = false := by rw [beq_eq_false_iff_ne]; omega
              rw [if_neg h2] at hX1
              clear h2
              have hsl : ∀ wx : World, (Instr.slice 9 (.string s) (some (.int .i64 ((i : Int) + 2))) (some (.int .i64 ((e : Int)))) none).run Tryz.prog wx = .ok (.string (s.extract (i + 2) (e))) wx := fun wx => by
                have h := run_slice_string_if (P := Tryz.prog) (w := wx) 9 s .i64 .i64 ((i : Int) + 2) ((e : Int)) Tryz.underlying9
                rw [if_pos (by omega), if_pos (by omega), show ((i : Int) + 2).toNat = i + 2 by omega, show ((e : Int)).toNat = e by omega] at h
                exact h
              have fz := fun o => qT.frozen o
              have t0 := qT.cell 0
              have t1 := qT.cell 1
              have t2 := qT.cell 2
              have t3 := qT.cell 3
              have t4 := qT.cell 4
              have t5 := qT.cell 5
              simp only [List.getElem?_toArray, List.getElem?_cons_zero, List.getElem?_cons_succ] at t0 t1 t2 t3 t4 t5
              go_wp2
              clear fz t0 t1 t2 t3 t4 t5
              obtain ⟨k6, q6⟩ := qT.set6 (.int .i64 0) (.int .i64 8) (.string (s.extract (i + 2) e)) (.int .i64 e) (.int .i64 0) (.int .i64 0)
              unfold set6 at k6 q6
              have x0 := q6.cell 0
              have x1 := q6.cell 1
              have x2 := q6.cell 2
              have x3 := q6.cell 3
              have x4 := q6.cell 4
              have x5 := q6.cell 5
              simp only [List.getElem?_toArray, List.getElem?_cons_zero, List.getElem?_cons_succ] at x0 x1 x2 x3 x4 x5
              replace hB := hB.trans ((k6.below (Nat.le_refl _)).mono (Nat.le_refl _))
              clear k6 q6 qT
              generalize ((((((w1.setCell ⟨w.heap.size, 0, none⟩ (.int .i64 0)).setCell ⟨w.heap.size, 1, none⟩ (.int .i64 8)).setCell ⟨w.heap.size, 2, none⟩ (.string (s.extract (i + 2) e))).setCell ⟨w.heap.size, 3, none⟩ (.int .i64 e)).setCell ⟨w.heap.size, 4, none⟩ (.int .i64 0)).setCell ⟨w.heap.size, 5, none⟩ (.int .i64 0)) = w9 at x0 x1 x2 x3 x4 x5 hB ⊢
              refine bodyPost_ret (v := .agg #[.int .i64 0, .int .i64 8, .string (s.extract (i + 2) e), .int .i64 e, .int .i64 0, .int .i64 0]) (by rw [results_c rfl]; go_simp) rfl ?_
              refine ⟨?_, hB⟩
              rw [hX1, seenV_whole (by simp), sub_is HSS.out]; rfl
        · have xe : ((e : Int) == (s.size : Int)) = false := by rw [beq_eq_false_iff_ne]; omega
          have hX1 := HX0.out
          rw [if_neg he] at hX1
          have xl : ((e : Int) < (s.size : Int)) := by omega
          have hle : e < s.size := by omega
          have HEE := hideT he
          clear he
          by_cases h2 : e = i + 2
          · have x2 : ((e : Int) == (i : Int) + 2) = true := by rw [beq_iff_eq]; omega
            rw [if_pos (Or.inl h2)] at hX1
            clear h2
            have GBD := hideT (fun W => bad_is i W)
            unfold wrV at GBD
            go_wp2_with fail
            refine (GBD.out _).mono ?_
            rintro e w1 ⟨rfl, b1⟩
            replace qT := qT.later b1
            replace hB := hB.trans (b1.mono hB.size)
            clear b1
            have fz := fun o => qT.frozen o
            have t0 := qT.cell 0
            have t1 := qT.cell 1
            have t2 := qT.cell 2
            have t3 := qT.cell 3
            have t4 := qT.cell 4
            have t5 := qT.cell 5
            simp only [List.getElem?_toArray, List.getElem?_cons_zero, List.getElem?_cons_succ] at t0 t1 t2 t3 t4 t5
            go_wp2
            clear fz t0 t1 t2 t3 t4 t5
            obtain ⟨k6, q6⟩ := qT.set6 (.int .i64 2) (.int .i64 0) (.string ⟨#[]⟩) (.int .i64 0) (.int .i64 120) (.int .i64 i)
            unfold set6 at k6 q6
            have x0 := q6.cell 0
            have x1 := q6.cell 1
            have x2 := q6.cell 2
            have x3 := q6.cell 3
            have x4 := q6.cell 4
            have x5 := q6.cell 5
            simp only [List.getElem?_toArray, List.getElem?_cons_zero, List.getElem?_cons_succ] at x0 x1 x2 x3 x4 x5
            replace hB := hB.trans ((k6.below (Nat.le_refl _)).mono (Nat.le_refl _))
            clear k6 q6 qT
            generalize ((((((w1.setCell ⟨w.heap.size, 0, none⟩ (.int .i64 2)).setCell ⟨w.heap.size, 1, none⟩ (.int .i64 0)).setCell ⟨w.heap.size, 2, none⟩ (.string ⟨#[]⟩)).setCell ⟨w.heap.size, 3, none⟩ (.int .i64 0)).setCell ⟨w.heap.size, 4, none⟩ (.int .i64 120)).setCell ⟨w.heap.size, 5, none⟩ (.int .i64 i)) = w9 at x0 x1 x2 x3 x4 x5 hB ⊢
            refine bodyPost_ret (v := .agg #[.int .i64 2, .int .i64 0, .string ⟨#[]⟩, .int .i64 0, .int .i64 120, .int .i64 i]) (by rw [results_c rfl]; go_simp) rfl ?_
            refine ⟨?_, hB⟩
            rw [hX1]; rfl
          · have x2 : ((e : Int) == (i : Int) + 2) = false := by rw [beq_eq_false_iff_ne]; omega
            have hbe := byt_of hle
            have hye := HY.out e hle
            have GS := hideT (fun W => symbolByte_is (byt s e) W)
            rcases hs : syN (byt s e) with _ | _
            · rw [if_neg (by rw [hye, hs]; simp [h2])] at hX1
              rw [hs, hbe] at GS
              clear hs hbe hye h2
              have hsl : ∀ wx : World, (Instr.slice 9 (.string s) (some (.int .i64 ((i : Int) + 2))) (some (.int .i64 ((e : Int)))) none).run Tryz.prog wx = .ok (.string (s.extract (i + 2) (e))) wx := fun wx => by
                have h := run_slice_string_if (P := Tryz.prog) (w := wx) 9 s .i64 .i64 ((i : Int) + 2) ((e : Int)) Tryz.underlying9
                rw [if_pos (by omega), if_pos (by omega), show ((i : Int) + 2).toNat = i + 2 by omega, show ((e : Int)).toNat = e by omega] at h
                exact h
              go_wp2_with fail
              refine (GS.out _).mono ?_
              rintro e w1 ⟨rfl, rfl⟩
              have fz := fun o => qT.frozen o
              have t0 := qT.cell 0
              have t1 := qT.cell 1
              have t2 := qT.cell 2
              have t3 := qT.cell 3
              have t4 := qT.cell 4
              have t5 := qT.cell 5
              simp only [List.getElem?_toArray, List.getElem?_cons_zero, List.getElem?_cons_succ] at t0 t1 t2 t3 t4 t5
              go_wp2
              clear fz t0 t1 t2 t3 t4 t5
              obtain ⟨k6, q6⟩ := qT.set6 (.int .i64 0) (.int .i64 8) (.string (s.extract (i + 2) e)) (.int .i64 e) (.int .i64 0) (.int .i64 0)
              unfold set6 at k6 q6
              have x0 := q6.cell 0
              have x1 := q6.cell 1
              have x2 := q6.cell 2
              have x3 := q6.cell 3
              have x4 := q6.cell 4
              have x5 := q6.cell 5
              simp only [List.getElem?_toArray, List.getElem?_cons_zero, List.getElem?_cons_succ] at x0 x1 x2 x3 x4 x5
              replace hB := hB.trans ((k6.below (Nat.le_refl _)).mono (Nat.le_refl _))
              clear k6 q6 qT
              generalize ((((((w1.setCell ⟨w.heap.size, 0, none⟩ (.int .i64 0)).setCell ⟨w.heap.size, 1, none⟩ (.int .i64 8)).setCell ⟨w.heap.size, 2, none⟩ (.string (s.extract (i + 2) e))).setCell ⟨w.heap.size, 3, none⟩ (.int .i64 e)).setCell ⟨w.heap.size, 4, none⟩ (.int .i64 0)).setCell ⟨w.heap.size, 5, none⟩ (.int .i64 0)) = w9 at x0 x1 x2 x3 x4 x5 hB ⊢
              refine bodyPost_ret (v := .agg #[.int .i64 0, .int .i64 8, .string (s.extract (i + 2) e), .int .i64 e, .int .i64 0, .int .i64 0]) (by rw [results_c rfl]; go_simp) rfl ?_
              refine ⟨?_, hB⟩
              rw [hX1, seenV_whole (fun c => HEE.out c.2.1), sub_is HSS.out]; rfl
            · rw [if_pos (Or.inr (by rw [hye]; exact hs))] at hX1
              rw [hs, hbe] at GS
              clear hs hbe hye h2
              go_wp2_with fail
              refine (GS.out _).mono ?_
              rintro e w1 ⟨rfl, rfl⟩
              have GBD := hideT (fun W => bad_is i W)
              unfold wrV at GBD
              go_wp2_with fail
              refine (GBD.out _).mono ?_
              rintro e w1 ⟨rfl, b1⟩
              replace qT := qT.later b1
              replace hB := hB.trans (b1.mono hB.size)
              clear b1
              have fz := fun o => qT.frozen o
              have t0 := qT.cell 0
              have t1 := qT.cell 1
              have t2 := qT.cell 2
              have t3 := qT.cell 3
              have t4 := qT.cell 4
              have t5 := qT.cell 5
              simp only [List.getElem?_toArray, List.getElem?_cons_zero, List.getElem?_cons_succ] at t0 t1 t2 t3 t4 t5
              go_wp2
              clear fz t0 t1 t2 t3 t4 t5
              obtain ⟨k6, q6⟩ := qT.set6 (.int .i64 2) (.int .i64 0) (.string ⟨#[]⟩) (.int .i64 0) (.int .i64 120) (.int .i64 i)
              unfold set6 at k6 q6
              have x0 := q6.cell 0
              have x1 := q6.cell 1
              have x2 := q6.cell 2
              have x3 := q6.cell 3
              have x4 := q6.cell 4
              have x5 := q6.cell 5
              simp only [List.getElem?_toArray, List.getElem?_cons_zero, List.getElem?_cons_succ] at x0 x1 x2 x3 x4 x5
              replace hB := hB.trans ((k6.below (Nat.le_refl _)).mono (Nat.le_refl _))
              clear k6 q6 qT
              generalize ((((((w1.setCell ⟨w.heap.size, 0, none⟩ (.int .i64 2)).setCell ⟨w.heap.size, 1, none⟩ (.int .i64 0)).setCell ⟨w.heap.size, 2, none⟩ (.string ⟨#[]⟩)).setCell ⟨w.heap.size, 3, none⟩ (.int .i64 0)).setCell ⟨w.heap.size, 4, none⟩ (.int .i64 120)).setCell ⟨w.heap.size, 5, none⟩ (.int .i64 i)) = w9 at x0 x1 x2 x3 x4 x5 hB ⊢
              refine bodyPost_ret (v := .agg #[.int .i64 2, .int .i64 0, .string ⟨#[]⟩, .int .i64 0, .int .i64 120, .int .i64 i]) (by rw [results_c rfl]; go_simp) rfl ?_
              refine ⟨?_, hB⟩
              rw [hX1]; rfl
      · have z120 : (((s[i + 1]'hl1).toNat : Int) != 120) = true := by rw [← hb1, bne_iff_ne]; omega
        have z98 : (((s[i + 1]'hl1).toNat : Int) != 98) = true := by rw [← hb1, bne_iff_ne]; omega
        have hX : X = .bad i := by rw [← HX.out]; unfold shpP; rw [if_neg hnl, if_neg (by rw [hy1]; exact h120), if_neg (by rw [hy1]; exact hc)]
        clear hc h120 hb1 hy1 hnl HX
        have GBD := hideT (fun W => bad_is i W)
        unfold wrV at GBD
        go_wp2_with fail
        refine (GBD.out _).mono ?_
        rintro e w1 ⟨rfl, b1⟩
        replace qT := qT.later b1
        replace hB := hB.trans (b1.mono hB.size)
        clear b1
        have fz := fun o => qT.frozen o
        have t0 := qT.cell 0
        have t1 := qT.cell 1
        have t2 := qT.cell 2
        have t3 := qT.cell 3
        have t4 := qT.cell 4
        have t5 := qT.cell 5
        simp only [List.getElem?_toArray, List.getElem?_cons_zero, List.getElem?_cons_succ] at t0 t1 t2 t3 t4 t5
        go_wp2
        clear fz t0 t1 t2 t3 t4 t5
        obtain ⟨k6, q6⟩ := qT.set6 (.int .i64 2) (.int .i64 0) (.string ⟨#[]⟩) (.int .i64 0) (.int .i64 120) (.int .i64 i)
        unfold set6 at k6 q6
        have x0 := q6.cell 0
        have x1 := q6.cell 1
        have x2 := q6.cell 2
        have x3 := q6.cell 3
        have x4 := q6.cell 4
        have x5 := q6.cell 5
        simp only [List.getElem?_toArray, List.getElem?_cons_zero, List.getElem?_cons_succ] at x0 x1 x2 x3 x4 x5
        replace hB := hB.trans ((k6.below (Nat.le_refl _)).mono (Nat.le_refl _))
        clear k6 q6 qT
        generalize ((((((w1.setCell ⟨w.heap.size, 0, none⟩ (.int .i64 2)).setCell ⟨w.heap.size, 1, none⟩ (.int .i64 0)).setCell ⟨w.heap.size, 2, none⟩ (.string ⟨#[]⟩)).setCell ⟨w.heap.size, 3, none⟩ (.int .i64 0)).setCell ⟨w.heap.size, 4, none⟩ (.int .i64 120)).setCell ⟨w.heap.size, 5, none⟩ (.int .i64 i)) = w9 at x0 x1 x2 x3 x4 x5 hB ⊢
        refine bodyPost_ret (v := .agg #[.int .i64 2, .int .i64 0, .string ⟨#[]⟩, .int .i64 0, .int .i64 120, .int .i64 i]) (by rw [results_c rfl]; go_simp) rfl ?_
        refine ⟨?_, hB⟩
        rw [hX]; rfl

end Go.Proofs.YtpfmamimhhnbiaaGreatDoor
