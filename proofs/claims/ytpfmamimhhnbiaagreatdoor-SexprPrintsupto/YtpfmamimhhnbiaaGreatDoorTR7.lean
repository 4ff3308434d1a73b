/-
  The reference's number.
-/
import Derived.Test.YtpfmamimhhnbiaaGreatDoorTR4
namespace Go.Proofs.YtpfmamimhhnbiaaGreatDoor
open Go.RowKit
set_option linter.unusedVariables false
set_option linter.unusedSimpArgs false
set_option maxHeartbeats 4000000 in
set_option maxRecDepth 100000 in
theorem number_is (s : ByteArray) (S : List UInt8) (hS : s.data.toList = S) (i : Nat) (fin : Bool) (w : World) (hsz : s.size ≤ 4294967280) (hi : i < s.size) (hd0 : dgN (byt s i) = true) : Calls Tryz.prog 71 #[.string s, .int .i64 i, .bool fin] w fun r w' => r = .returned (seenV s.size i fin (numP S i)) ∧ Below w.heap.size w w' := by
  have hy := fun k (h : k < s.size) => byS_byt h
  have hsl : s.size = S.length := by rw [← hS, Array.length_toList]; rfl
  rw [hS] at hy
  have HSS := hideT hS
  clear hS
  have HY := hideT hy
  have HL := hideT hsl
  clear hy hsl
  obtain ⟨X, hX⟩ : ∃ X, numP S i = X := ⟨_, rfl⟩
  rw [hX]
  have HX := hideT hX
  clear hX
  have hbi := byt_of hi
  have hyi := HY.out i hi
  obtain ⟨e, her⟩ : ∃ e, runE dgN S i = e := ⟨_, rfl⟩
  have hr := runE_spec dgN S (i + 1) (by rw [← HL.out]; omega)
  rw [← runE_on (f := dgN) (S := S) (i := i) (by rw [← HL.out]; exact hi) (by rw [hyi]; exact hd0), her, ← HL.out] at hr
  obtain ⟨r1, r2, _⟩ := hr
  have hX0 := HX.out
  unfold numP at hX0
  rw [her, hyi] at hX0
  have HX0 := hideT hX0
  have GE_ := hideT (fun W => digEnd_d s S HSS.out i W hsz (by omega))
  rw [her] at GE_
  clear her hX0 HX hyi hd0
  have hB := below_alloc (w := w) (.cells #[.int .i64 0, .int .i64 0, .string ⟨#[]⟩, .int .i64 0, .int .i64 0, .int .i64 0] 79)
  have qT := Blk.new w #[.int .i64 0, .int .i64 0, .string ⟨#[]⟩, .int .i64 0, .int .i64 0, .int .i64 0] 79
  have eW : (w.alloc (.cells #[.int .i64 0, .int .i64 0, .string ⟨#[]⟩, .int .i64 0, .int .i64 0, .int .i64 0] 79)).heap.size = w.heap.size + 1 := by simp
  go_enter Tryz.func71, Tryz.ntmps71
  go_upto_region 1 with fail
  generalize w.alloc (.cells #[.int .i64 0, .int .i64 0, .string ⟨#[]⟩, .int .i64 0, .int .i64 0, .int .i64 0] 79) = W at hB qT eW ⊢
  go_wp2_with fail
  refine (GE_.out _).mono ?_
  rintro e w1 ⟨rfl, rfl⟩
  by_cases h48 : byt s i = 48
  · have x48 : (((s[i]'hi).toNat : Int) == 48) = true := by rw [← hbi, h48]; rfl
    by_cases hg : i + 1 < e
    · have xg : ((i : Int) + 1 < (e : Int)) := by omega
      have hX : X = .bad i := by rw [← HX0.out, if_pos ⟨h48, hg⟩]
      clear HX0 h48 hbi
      have GBD := hideT (fun W => bad_is i W)
      unfold wrV at GBD
      go_wp2_with fail
      refine (GBD.out _).mono ?_
      rintro e w1 ⟨rfl, b1⟩
      replace qT := qT.later b1
      replace hB := hB.trans (b1.mono hB.size)
      clear b1
      have fz := fun o => qT.frozen o
      have t0 := qT.cell 0
      have t1 := qT.cell 1
      have t2 := qT.cell 2
      have t3 := qT.cell 3
      have t4 := qT.cell 4
      have t5 := qT.cell 5
      simp only [List.getElem?_toArray, List.getElem?_cons_zero, List.getElem?_cons_succ] at t0 t1 t2 t3 t4 t5
      go_wp2
      clear fz t0 t1 t2 t3 t4 t5
      obtain ⟨k6, q6⟩ := qT.set6 (.int .i64 2) (.int .i64 0) (.string ⟨#[]⟩) (.int .i64 0) (.int .i64 120) (.int .i64 i)
      unfold set6 at k6 q6
      have x0 := q6.cell 0
      have x1 := q6.cell 1
      have x2 := q6.cell 2
      have x3 := q6.cell 3
      have x4 := q6.cell 4
      have x5 := q6.cell 5
      simp only [List.getElem?_toArray, List.getElem?_cons_zero, List.getElem?_cons_succ] at x0 x1 x2 x3 x4 x5
      replace hB := hB.trans ((k6.below (Nat.le_refl _)).mono (Nat.le_refl _))
      clear k6 q6 qT
      generalize ((((((w1.setCell ⟨w.heap.size, 0, none⟩ (.int .i64 2)).setCell ⟨w.heap.size, 1, none⟩ (.int .i64 0)).setCell ⟨w.heap.size, 2, none⟩ (.string ⟨#[]⟩)).setCell ⟨w.heap.size, 3, none⟩ (.int .i64 0)).setCell ⟨w.heap.size, 4, none⟩ (.int .i64 120)).setCell ⟨w.heap.size, 5, none⟩ (.int .i64 i)) = w9 at x0 x1 x2 x3 x4 x5 hB ⊢
      refine bodyPost_ret (v := .agg #[.int .i64 2, .int .i64 0, .string ⟨#[]⟩, .int .i64 0, .int .i64 120, .int .i64 i]) (by rw [results_c rfl]; go_simp) rfl ?_
      refine ⟨?_, hB⟩
      rw [hX]; rfl
    · have xg : ¬ ((i : Int) + 1 < (e : Int)) := by omega
      have HXN := hideT (show nubP S i e = X by rw [← HX0.out, if_neg (fun c => hg c.2)])
      clear HX0 h48 hbi
      by_cases hl0 : e < s.size
      · have xl0 : ((e : Int) < (s.size : Int)) := by omega
        have hb0 := byt_of hl0
        have hy0 := HY.out e hl0
        by_cases h46 : byt s e = 46
        · have x46 : (((s[e]'hl0).toNat : Int) == 46) = true := by rw [← hb0, h46]; rfl
          have hX1 := HXN.out
          unfold nubP at hX1
          rw [← HL.out, if_pos ⟨hl0, by rw [hy0]; exact h46⟩] at hX1
          have HX1 := hideT hX1
          clear hX1 HXN hb0 hy0 h46
          obtain ⟨f, hfr⟩ : ∃ f, runE dgN S (e + 1) = f := ⟨_, rfl⟩
          have hr := runE_spec dgN S (e + 1) (by rw [← HL.out]; omega)
          rw [hfr, ← HL.out] at hr
          obtain ⟨q1, q2, _⟩ := hr
          have GF := hideT (fun W => digEnd_d s S HSS.out (e + 1) W hsz (by omega))
          rw [hfr, show ((e + 1 : Nat) : Int) = (e : Int) + 1 by omega] at GF
          have hX2 := HX1.out
          rw [hfr] at hX2
          have HX2 := hideT hX2
          clear hX2 HX1 hfr
          by_cases h1 : e + 1 = s.size
          · have x1 : (((e : Int) + 1) == (s.size : Int)) = true := by rw [beq_iff_eq]; omega
            have hX : X = .half 120 := by rw [← HX2.out, if_pos h1]
            have xf : ((f : Int) == (e : Int) + 1) = true := by rw [beq_iff_eq]; omega
            clear h1
            cases fin
            · skip
              have fz := fun o => qT.frozen o
              have t0 := qT.cell 0
              have t1 := qT.cell 1
              have t2 := qT.cell 2
              have t3 := qT.cell 3
              have t4 := qT.cell 4
              have t5 := qT.cell 5
              simp only [List.getElem?_toArray, List.getElem?_cons_zero, List.getElem?_cons_succ] at t0 t1 t2 t3 t4 t5
              go_wp2
              clear fz t0 t1 t2 t3 t4 t5
              obtain ⟨k6, q6⟩ := qT.set6 (.int .i64 1) (.int .i64 0) (.string ⟨#[]⟩) (.int .i64 0) (.int .i64 0) (.int .i64 0)
              unfold set6 at k6 q6
              have x0 := q6.cell 0
              have x1 := q6.cell 1
              have x2 := q6.cell 2
              have x3 := q6.cell 3
              have x4 := q6.cell 4
              have x5 := q6.cell 5
              simp only [List.getElem?_toArray, List.getElem?_cons_zero, List.getElem?_cons_succ] at x0 x1 x2 x3 x4 x5
              replace hB := hB.trans ((k6.below (Nat.le_refl _)).mono (Nat.le_refl _))
              clear k6 q6 qT
              generalize ((((((w1.setCell ⟨w.heap.size, 0, none⟩ (.int .i64 1)).setCell ⟨w.heap.size, 1, none⟩ (.int .i64 0)).setCell ⟨w.heap.size, 2, none⟩ (.string ⟨#[]⟩)).setCell ⟨w.heap.size, 3, none⟩ (.int .i64 0)).setCell ⟨w.heap.size, 4, none⟩ (.int .i64 0)).setCell ⟨w.heap.size, 5, none⟩ (.int .i64 0)) = w9 at x0 x1 x2 x3 x4 x5 hB ⊢
              refine bodyPost_ret (v := .agg #[.int .i64 1, .int .i64 0, .string ⟨#[]⟩, .int .i64 0, .int .i64 0, .int .i64 0]) (by rw [results_c rfl]; go_simp) rfl ?_
              refine ⟨?_, hB⟩
              rw [hX]; rfl
            · skip
              go_wp2_with fail
              refine (GF.out _).mono ?_
              rintro e w1 ⟨rfl, rfl⟩
              have GBD := hideT (fun W => bad_is i W)
              unfold wrV at GBD
              go_wp2_with fail
              refine (GBD.out _).mono ?_
              rintro e w1 ⟨rfl, b1⟩
              replace qT := qT.later b1
              replace hB := hB.trans (b1.mono hB.size)
              clear b1
              have fz := fun o => qT.frozen o
              have t0 := qT.cell 0
              have t1 := qT.cell 1
              have t2 := qT.cell 2
              have t3 := qT.cell 3
              have t4 := qT.cell 4
              have t5 := qT.cell 5
              simp only [List.getElem?_toArray, List.getElem?_cons_zero, List.getElem?_cons_succ] at t0 t1 t2 t3 t4 t5
              go_wp2
              clear fz t0 t1 t2 t3 t4 t5
              obtain ⟨k6, q6⟩ := qT.set6 (.int .i64 2) (.int .i64 0) (.string ⟨#[]⟩) (.int .i64 0) (.int .i64 120) (.int .i64 i)
              unfold set6 at k6 q6
              have x0 := q6.cell 0
              have x1 := q6.cell 1
              have x2 := q6.cell 2
              have x3 := q6.cell 3
              have x4 := q6.cell 4
              have x5 := q6.cell 5
              simp only [List.getElem?_toArray, List.getElem?_cons_zero, List.getElem?_cons_succ] at x0 x1 x2 x3 x4 x5
              replace hB := hB.trans ((k6.below (Nat.le_refl _)).mono (Nat.le_refl _))
              clear k6 q6 qT
              generalize ((((((w1.setCell ⟨w.heap.size, 0, none⟩ (.int .i64 2)).setCell ⟨w.heap.size, 1, none⟩ (.int .i64 0)).setCell ⟨w.heap.size, 2, none⟩ (.string ⟨#[]⟩)).setCell ⟨w.heap.size, 3, none⟩ (.int .i64 0)).setCell ⟨w.heap.size, 4, none⟩ (.int .i64 120)).setCell ⟨w.heap.size, 5, none⟩ (.int .i64 i)) = w9 at x0 x1 x2 x3 x4 x5 hB ⊢
              refine bodyPost_ret (v := .agg #[.int .i64 2, .int .i64 0, .string ⟨#[]⟩, .int .i64 0, .int .i64 120, .int .i64 i]) (by rw [results_c rfl]; go_simp) rfl ?_
              refine ⟨?_, hB⟩
              rw [hX]; rfl
          · have x1 : (((e : Int) + 1) == (s.size : Int)) = false := by rw [beq_eq_false_iff_ne]; omega
            have hX3 := HX2.out
            rw [if_neg h1] at hX3
            clear HX2 h1
            by_cases h2 : f = e + 1
            · have xf : ((f : Int) == (e : Int) + 1) = true := by rw [beq_iff_eq]; omega
              have hX : X = .bad i := by rw [← hX3, if_pos h2]
              clear h2 hX3
              go_wp2_with fail
              refine (GF.out _).mono ?_
              rintro e w1 ⟨rfl, rfl⟩
              have GBD := hideT (fun W => bad_is i W)
              unfold wrV at GBD
              go_wp2_with fail
              refine (GBD.out _).mono ?_
              rintro e w1 ⟨rfl, b1⟩
              replace qT := qT.later b1
              replace hB := hB.trans (b1.mono hB.size)
              clear b1
              have fz := fun o => qT.frozen o
              have t0 := qT.cell 0
              have t1 := qT.cell 1
              have t2 := qT.cell 2
              have t3 := qT.cell 3
              have t4 := qT.cell 4
              have t5 := qT.cell 5
              simp only [List.getElem?_toArray, List.getElem?_cons_zero, List.getElem?_cons_succ] at t0 t1 t2 t3 t4 t5
              go_wp2
              clear fz t0 t1 t2 t3 t4 t5
              obtain ⟨k6, q6⟩ := qT.set6 (.int .i64 2) (.int .i64 0) (.string ⟨#[]⟩) (.int .i64 0) (.int .i64 120) (.int .i64 i)
              unfold set6 at k6 q6
              have x0 := q6.cell 0
              have x1 := q6.cell 1
              have x2 := q6.cell 2
              have x3 := q6.cell 3
              have x4 := q6.cell 4
              have x5 := q6.cell 5
              simp only [List.getElem?_toArray, List.getElem?_cons_zero, List.getElem?_cons_succ] at x0 x1 x2 x3 x4 x5
              replace hB := hB.trans ((k6.below (Nat.le_refl _)).mono (Nat.le_refl _))
              clear k6 q6 qT
              generalize ((((((w1.setCell ⟨w.heap.size, 0, none⟩ (.int .i64 2)).setCell ⟨w.heap.size, 1, none⟩ (.int .i64 0)).setCell ⟨w.heap.size, 2, none⟩ (.string ⟨#[]⟩)).setCell ⟨w.heap.size, 3, none⟩ (.int .i64 0)).setCell ⟨w.heap.size, 4, none⟩ (.int .i64 120)).setCell ⟨w.heap.size, 5, none⟩ (.int .i64 i)) = w9 at x0 x1 x2 x3 x4 x5 hB ⊢
              refine bodyPost_ret (v := .agg #[.int .i64 2, .int .i64 0, .string ⟨#[]⟩, .int .i64 0, .int .i64 120, .int .i64 i]) (by rw [results_c rfl]; go_simp) rfl ?_
              refine ⟨?_, hB⟩
              rw [hX]; rfl
            · have xf : ((f : Int) == (e : Int) + 1) = false := by rw [beq_eq_false_iff_ne]; omega
              rw [if_neg h2] at hX3
              have HXE := hideT hX3
              clear hX3 h2
              go_wp2_with fail
              refine (GF.out _).mono ?_
              rintro e w1 ⟨rfl, rfl⟩
              by_cases hl : f < s.size
              · have xl : ((f : Int) < (s.size : Int)) := by omega
                have hbe := byt_of hl
                have hye := HY.out f hl
                have GS := hideT (fun W => symbolByte_is (byt s f) W)
                rcases hs : syN (byt s f) with _ | _
                · have hX : X = .tok 6 (bts (subS S i f)) f false := by rw [← HXE.out]; unfold nueP; rw [if_neg (by rw [hye, hs]; simp)]
                  rw [hs, hbe] at GS
                  clear hs hbe hye
                  go_wp2_with fail
                  refine (GS.out _).mono ?_
                  rintro e w1 ⟨rfl, rfl⟩
                  have hsl : ∀ wx : World, (Instr.slice 9 (.string s) (some (.int .i64 ((i : Int)))) (some (.int .i64 ((f : Int)))) none).run Tryz.prog wx = .ok (.string (s.extract (i) (f))) wx := fun wx => by
                    have h := run_slice_string_if (P := Tryz.prog) (w := wx) 9 s .i64 .i64 ((i : Int)) ((f : Int)) Tryz.underlying9
                    rw [if_pos (by omega), if_pos (by omega), show ((i : Int)).toNat = i by omega, show ((f : Int)).toNat = f by omega] at h
                    exact h
                  have xe : ((f : Int) == (s.size : Int)) = false := by rw [beq_eq_false_iff_ne]; omega
                  have HEE := hideT (show ¬ f = s.size by omega)
                  have GU := hideT (fun W => unless_is 6 (s.extract i f) f false fin W)
                  rw [if_neg (by simp)] at GU
                  unfold whV at GU
                  go_wp2_with fail
                  refine (GU.out _).mono ?_
                  rintro e w1 ⟨rfl, b1⟩
                  replace qT := qT.later b1
                  replace hB := hB.trans (b1.mono hB.size)
                  clear b1
                  have fz := fun o => qT.frozen o
                  have t0 := qT.cell 0
                  have t1 := qT.cell 1
                  have t2 := qT.cell 2
                  have t3 := qT.cell 3
                  have t4 := qT.cell 4
                  have t5 := qT.cell 5
                  simp only [List.getElem?_toArray, List.getElem?_cons_zero, List.getElem?_cons_succ] at t0 t1 t2 t3 t4 t5
                  go_wp2
                  clear fz t0 t1 t2 t3 t4 t5
                  obtain ⟨k6, q6⟩ := qT.set6 (.int .i64 0) (.int .i64 6) (.string (s.extract i f)) (.int .i64 f) (.int .i64 0) (.int .i64 0)
                  unfold set6 at k6 q6
                  have x0 := q6.cell 0
                  have x1 := q6.cell 1
                  have x2 := q6.cell 2
                  have x3 := q6.cell 3
                  have x4 := q6.cell 4
                  have x5 := q6.cell 5
                  simp only [List.getElem?_toArray, List.getElem?_cons_zero, List.getElem?_cons_succ] at x0 x1 x2 x3 x4 x5
                  replace hB := hB.trans ((k6.below (Nat.le_refl _)).mono (Nat.le_refl _))
                  clear k6 q6 qT
                  generalize ((((((w1.setCell ⟨w.heap.size, 0, none⟩ (.int .i64 0)).setCell ⟨w.heap.size, 1, none⟩ (.int .i64 6)).setCell ⟨w.heap.size, 2, none⟩ (.string (s.extract i f))).setCell ⟨w.heap.size, 3, none⟩ (.int .i64 f)).setCell ⟨w.heap.size, 4, none⟩ (.int .i64 0)).setCell ⟨w.heap.size, 5, none⟩ (.int .i64 0)) = w9 at x0 x1 x2 x3 x4 x5 hB ⊢
                  refine bodyPost_ret (v := .agg #[.int .i64 0, .int .i64 6, .string (s.extract i f), .int .i64 f, .int .i64 0, .int .i64 0]) (by rw [results_c rfl]; go_simp) rfl ?_
                  refine ⟨?_, hB⟩
                  rw [hX, seenV_whole (fun c => HEE.out c.2.1), sub_is HSS.out]; rfl
                · have hX : X = .bad i := by rw [← HXE.out]; unfold nueP; rw [if_pos ⟨by rw [← HL.out]; exact hl, by rw [hye]; exact hs⟩]
                  rw [hs, hbe] at GS
                  clear hs hbe hye
                  go_wp2_with fail
                  refine (GS.out _).mono ?_
                  rintro e w1 ⟨rfl, rfl⟩
                  have GBD := hideT (fun W => bad_is i W)
                  unfold wrV at GBD
                  go_wp2_with fail
                  refine (GBD.out _).mono ?_
                  rintro e w1 ⟨rfl, b1⟩
                  replace qT := qT.later b1
                  replace hB := hB.trans (b1.mono hB.size)
                  clear b1
                  have fz := fun o => qT.frozen o
                  have t0 := qT.cell 0
                  have t1 := qT.cell 1
                  have t2 := qT.cell 2
                  have t3 := qT.cell 3
                  have t4 := qT.cell 4
                  have t5 := qT.cell 5
                  simp only [List.getElem?_toArray, List.getElem?_cons_zero, List.getElem?_cons_succ] at t0 t1 t2 t3 t4 t5
                  go_wp2
                  clear fz t0 t1 t2 t3 t4 t5
                  obtain ⟨k6, q6⟩ := qT.set6 (.int .i64 2) (.int .i64 0) (.string ⟨#[]⟩) (.int .i64 0) (.int .i64 120) (.int .i64 i)
                  unfold set6 at k6 q6
                  have x0 := q6.cell 0
                  have x1 := q6.cell 1
                  have x2 := q6.cell 2
                  have x3 := q6.cell 3
                  have x4 := q6.cell 4
                  have x5 := q6.cell 5
                  simp only [List.getElem?_toArray, List.getElem?_cons_zero, List.getElem?_cons_succ] at x0 x1 x2 x3 x4 x5
                  replace hB := hB.trans ((k6.below (Nat.le_refl _)).mono (Nat.le_refl _))
                  clear k6 q6 qT
                  generalize ((((((w1.setCell ⟨w.heap.size, 0, none⟩ (.int .i64 2)).setCell ⟨w.heap.size, 1, none⟩ (.int .i64 0)).setCell ⟨w.heap.size, 2, none⟩ (.string ⟨#[]⟩)).setCell ⟨w.heap.size, 3, none⟩ (.int .i64 0)).setCell ⟨w.heap.size, 4, none⟩ (.int .i64 120)).setCell ⟨w.heap.size, 5, none⟩ (.int .i64 i)) = w9 at x0 x1 x2 x3 x4 x5 hB ⊢
                  refine bodyPost_ret (v := .agg #[.int .i64 2, .int .i64 0, .string ⟨#[]⟩, .int .i64 0, .int .i64 120, .int .i64 i]) (by rw [results_c rfl]; go_simp) rfl ?_
                  refine ⟨?_, hB⟩
                  rw [hX]; rfl
              · have xl : ¬ ((f : Int) < (s.size : Int)) := by omega
                have HEE := hideT (show f = s.size by omega)
                have xe : ((f : Int) == (s.size : Int)) = true := by rw [beq_iff_eq]; omega
                have hX : X = .tok 6 (bts (subS S i f)) f false := by rw [← HXE.out]; unfold nueP; rw [if_neg (fun c => hl (by rw [HL.out]; exact c.1))]
                have hsl : ∀ wx : World, (Instr.slice 9 (.string s) (some (.int .i64 ((i : Int)))) (some (.int .i64 ((f : Int)))) none).run Tryz.prog wx = .ok (.string (s.extract (i) (f))) wx := fun wx => by
                  have h := run_slice_string_if (P := Tryz.prog) (w := wx) 9 s .i64 .i64 ((i : Int)) ((f : Int)) Tryz.underlying9
                  rw [if_pos (by omega), if_pos (by omega), show ((i : Int)).toNat = i by omega, show ((f : Int)).toNat = f by omega] at h
                  exact h
                cases fin
                · have GU := hideT (fun W => unless_is 6 (s.extract i f) f true false W)
                  rw [if_pos (by simp)] at GU
                  unfold opV at GU
                  go_wp2_with fail
                  refine (GU.out _).mono ?_
                  rintro e w1 ⟨rfl, b1⟩
                  replace qT := qT.later b1
                  replace hB := hB.trans (b1.mono hB.size)
                  clear b1
                  have fz := fun o => qT.frozen o
                  have t0 := qT.cell 0
                  have t1 := qT.cell 1
                  have t2 := qT.cell 2
                  have t3 := qT.cell 3
                  have t4 := qT.cell 4
                  have t5 := qT.cell 5
                  simp only [List.getElem?_toArray, List.getElem?_cons_zero, List.getElem?_cons_succ] at t0 t1 t2 t3 t4 t5
                  go_wp2
                  clear fz t0 t1 t2 t3 t4 t5
                  obtain ⟨k6, q6⟩ := qT.set6 (.int .i64 1) (.int .i64 0) (.string ⟨#[]⟩) (.int .i64 0) (.int .i64 0) (.int .i64 0)
                  unfold set6 at k6 q6
                  have x0 := q6.cell 0
                  have x1 := q6.cell 1
                  have x2 := q6.cell 2
                  have x3 := q6.cell 3
                  have x4 := q6.cell 4
                  have x5 := q6.cell 5
                  simp only [List.getElem?_toArray, List.getElem?_cons_zero, List.getElem?_cons_succ] at x0 x1 x2 x3 x4 x5
                  replace hB := hB.trans ((k6.below (Nat.le_refl _)).mono (Nat.le_refl _))
                  clear k6 q6 qT
                  generalize ((((((w1.setCell ⟨w.heap.size, 0, none⟩ (.int .i64 1)).setCell ⟨w.heap.size, 1, none⟩ (.int .i64 0)).setCell ⟨w.heap.size, 2, none⟩ (.string ⟨#[]⟩)).setCell ⟨w.heap.size, 3, none⟩ (.int .i64 0)).setCell ⟨w.heap.size, 4, none⟩ (.int .i64 0)).setCell ⟨w.heap.size, 5, none⟩ (.int .i64 0)) = w9 at x0 x1 x2 x3 x4 x5 hB ⊢
                  refine bodyPost_ret (v := .agg #[.int .i64 1, .int .i64 0, .string ⟨#[]⟩, .int .i64 0, .int .i64 0, .int .i64 0]) (by rw [results_c rfl]; go_simp) rfl ?_
                  refine ⟨?_, hB⟩
                  rw [hX, seenV_open HEE.out]; rfl
                · have GU := hideT (fun W => unless_is 6 (s.extract i f) f true true W)
                  rw [if_neg (by simp)] at GU
                  unfold whV at GU
                  go_wp2_with fail
                  refine (GU.out _).mono ?_
                  rintro e w1 ⟨rfl, b1⟩
                  replace qT := qT.later b1
                  replace hB := hB.trans (b1.mono hB.size)
                  clear b1
                  have fz := fun o => qT.frozen o
                  have t0 := qT.cell 0
                  have t1 := qT.cell 1
                  have t2 := qT.cell 2
                  have t3 := qT.cell 3
                  have t4 := qT.cell 4
                  have t5 := qT.cell 5
                  simp only [List.getElem?_toArray, List.getElem?_cons_zero, List.getElem?_cons_succ] at t0 t1 t2 t3 t4 t5
                  go_wp2
                  clear fz t0 t1 t2 t3 t4 t5
                  obtain ⟨k6, q6⟩ := qT.set6 (.int .i64 0) (.int .i64 6) (.string (s.extract i f)) (.int .i64 f) (.int .i64 0) (.int .i64 0)
                  unfold set6 at k6 q6
                  have x0 := q6.cell 0
                  have x1 := q6.cell 1
                  have x2 := q6.cell 2
                  have x3 := q6.cell 3
                  have x4 := q6.cell 4
                  have x5 := q6.cell 5
                  simp only [List.getElem?_toArray, List.getElem?_cons_zero, List.getElem?_cons_succ] at x0 x1 x2 x3 x4 x5
                  replace hB := hB.trans ((k6.below (Nat.le_refl _)).mono (Nat.le_refl _))
                  clear k6 q6 qT
                  generalize ((((((w1.setCell ⟨w.heap.size, 0, none⟩ (.int .i64 0)).setCell ⟨w.heap.size, 1, none⟩ (.int .i64 6)).setCell ⟨w.heap.size, 2, none⟩ (.string (s.extract i f))).setCell ⟨w.heap.size, 3, none⟩ (.int .i64 f)).setCell ⟨w.heap.size, 4, none⟩ (.int .i64 0)).setCell ⟨w.heap.size, 5, none⟩ (.int .i64 0)) = w9 at x0 x1 x2 x3 x4 x5 hB ⊢
                  refine bodyPost_ret (v := .agg #[.int .i64 0, .int .i64 6, .string (s.extract i f), .int .i64 f, .int .i64 0, .int .i64 0]) (by rw [results_c rfl]; go_simp) rfl ?_
                  refine ⟨?_, hB⟩
                  rw [hX, seenV_whole (by simp), sub_is HSS.out]; rfl
        · have x46 : (((s[e]'hl0).toNat : Int) == 46) = false := by rw [← hb0, beq_eq_false_iff_ne]; omega
          have hX1 := HXN.out
          unfold nubP at hX1
          rw [if_neg (fun c => h46 (by rw [← hy0]; exact c.2))] at hX1
          have HXE := hideT hX1
          clear hX1 HXN hb0 hy0 h46
          have hl := hl0
          have xl : ((e : Int) < (s.size : Int)) := by omega
          have hbe := byt_of hl
          have hye := HY.out e hl
          have GS := hideT (fun W => symbolByte_is (byt s e) W)
          rcases hs : syN (byt s e) with _ | _
          · have hX : X = .tok 5 (bts (subS S i e)) e false := by rw [← HXE.out]; unfold nueP; rw [if_neg (by rw [hye, hs]; simp)]
            rw [hs, hbe] at GS
            clear hs hbe hye
            go_wp2_with fail
            refine (GS.out _).mono ?_
            rintro e w1 ⟨rfl, rfl⟩
            have hsl : ∀ wx : World, (Instr.slice 9 (.string s) (some (.int .i64 ((i : Int)))) (some (.int .i64 ((e : Int)))) none).run Tryz.prog wx = .ok (.string (s.extract (i) (e))) wx := fun wx => by
              have h := run_slice_string_if (P := Tryz.prog) (w := wx) 9 s .i64 .i64 ((i : Int)) ((e : Int)) Tryz.underlying9
              rw [if_pos (by omega), if_pos (by omega), show ((i : Int)).toNat = i by omega, show ((e : Int)).toNat = e by omega] at h
              exact h
            have xe : ((e : Int) == (s.size : Int)) = false := by rw [beq_eq_false_iff_ne]; omega
            have HEE := hideT (show ¬ e = s.size by omega)
            have GU := hideT (fun W => unless_is 5 (s.extract i e) e false fin W)
            rw [if_neg (by simp)] at GU
            unfold whV at GU
            go_wp2_with fail
            refine (GU.out _).mono ?_
            rintro e w1 ⟨rfl, b1⟩
            replace qT := qT.later b1
            replace hB := hB.trans (b1.mono hB.size)
            clear b1
            have fz := fun o => qT.frozen o
            have t0 := qT.cell 0
            have t1 := qT.cell 1
            have t2 := qT.cell 2
            have t3 := qT.cell 3
            have t4 := qT.cell 4
            have t5 := qT.cell 5
            simp only [List.getElem?_toArray, List.getElem?_cons_zero, List.getElem?_cons_succ] at t0 t1 t2 t3 t4 t5
            go_wp2
            clear fz t0 t1 t2 t3 t4 t5
            obtain ⟨k6, q6⟩ := qT.set6 (.int .i64 0) (.int .i64 5) (.string (s.extract i e)) (.int .i64 e) (.int .i64 0) (.int .i64 0)
            unfold set6 at k6 q6
            have x0 := q6.cell 0
            have x1 := q6.cell 1
            have x2 := q6.cell 2
            have x3 := q6.cell 3
            have x4 := q6.cell 4
            have x5 := q6.cell 5
            simp only [List.getElem?_toArray, List.getElem?_cons_zero, List.getElem?_cons_succ] at x0 x1 x2 x3 x4 x5
            replace hB := hB.trans ((k6.below (Nat.le_refl _)).mono (Nat.le_refl _))
            clear k6 q6 qT
            generalize ((((((w1.setCell ⟨w.heap.size, 0, none⟩ (.int .i64 0)).setCell ⟨w.heap.size, 1, none⟩ (.int .i64 5)).setCell ⟨w.heap.size, 2, none⟩ (.string (s.extract i e))).setCell ⟨w.heap.size, 3, none⟩ (.int .i64 e)).setCell ⟨w.heap.size, 4, none⟩ (.int .i64 0)).setCell ⟨w.heap.size, 5, none⟩ (.int .i64 0)) = w9 at x0 x1 x2 x3 x4 x5 hB ⊢
            refine bodyPost_ret (v := .agg #[.int .i64 0, .int .i64 5, .string (s.extract i e), .int .i64 e, .int .i64 0, .int .i64 0]) (by rw [results_c rfl]; go_simp) rfl ?_
            refine ⟨?_, hB⟩
            rw [hX, seenV_whole (fun c => HEE.out c.2.1), sub_is HSS.out]; rfl
          · have hX : X = .bad i := by rw [← HXE.out]; unfold nueP; rw [if_pos ⟨by rw [← HL.out]; exact hl, by rw [hye]; exact hs⟩]
            rw [hs, hbe] at GS
            clear hs hbe hye
            go_wp2_with fail
            refine (GS.out _).mono ?_
            rintro e w1 ⟨rfl, rfl⟩
            have GBD := hideT (fun W => bad_is i W)
            unfold wrV at GBD
            go_wp2_with fail
            refine (GBD.out _).mono ?_
            rintro e w1 ⟨rfl, b1⟩
            replace qT := qT.later b1
            replace hB := hB.trans (b1.mono hB.size)
            clear b1
            have fz := fun o => qT.frozen o
            have t0 := qT.cell 0
            have t1 := qT.cell 1
            have t2 := qT.cell 2
            have t3 := qT.cell 3
            have t4 := qT.cell 4
            have t5 := qT.cell 5
            simp only [List.getElem?_toArray, List.getElem?_cons_zero, List.getElem?_cons_succ] at t0 t1 t2 t3 t4 t5
            go_wp2
            clear fz t0 t1 t2 t3 t4 t5
            obtain ⟨k6, q6⟩ := qT.set6 (.int .i64 2) (.int .i64 0) (.string ⟨#[]⟩) (.int .i64 0) (.int .i64 120) (.int .i64 i)
            unfold set6 at k6 q6
            have x0 := q6.cell 0
            have x1 := q6.cell 1
            have x2 := q6.cell 2
            have x3 := q6.cell 3
            have x4 := q6.cell 4
            have x5 := q6.cell 5
            simp only [List.getElem?_toArray, List.getElem?_cons_zero, List.getElem?_cons_succ] at x0 x1 x2 x3 x4 x5
            replace hB := hB.trans ((k6.below (Nat.le_refl _)).mono (Nat.le_refl _))
            clear k6 q6 qT
            generalize ((((((w1.setCell ⟨w.heap.size, 0, none⟩ (.int .i64 2)).setCell ⟨w.heap.size, 1, none⟩ (.int .i64 0)).setCell ⟨w.heap.size, 2, none⟩ (.string ⟨#[]⟩)).setCell ⟨w.heap.size, 3, none⟩ (.int .i64 0)).setCell ⟨w.heap.size, 4, none⟩ (.int .i64 120)).setCell ⟨w.heap.size, 5, none⟩ (.int .i64 i)) = w9 at x0 x1 x2 x3 x4 x5 hB ⊢
            refine bodyPost_ret (v := .agg #[.int .i64 2, .int .i64 0, .string ⟨#[]⟩, .int .i64 0, .int .i64 120, .int .i64 i]) (by rw [results_c rfl]; go_simp) rfl ?_
            refine ⟨?_, hB⟩
            rw [hX]; rfl
      · have xl0 : ¬ ((e : Int) < (s.size : Int)) := by omega
        have hX1 := HXN.out
        unfold nubP at hX1
        rw [← HL.out, if_neg (fun c => hl0 c.1)] at hX1
        have HXE := hideT hX1
        clear hX1 HXN
        have hl := hl0
        have xl : ¬ ((e : Int) < (s.size : Int)) := by omega
        have HEE := hideT (show e = s.size by omega)
        have xe : ((e : Int) == (s.size : Int)) = true := by rw [beq_iff_eq]; omega
        have hX : X = .tok 5 (bts (subS S i e)) e false := by rw [← HXE.out]; unfold nueP; rw [if_neg (fun c => hl (by rw [HL.out]; exact c.1))]
        have hsl : ∀ wx : World, (Instr.slice 9 (.string s) (some (.int .i64 ((i : Int)))) (some (.int .i64 ((e : Int)))) none).run Tryz.prog wx = .ok (.string (s.extract (i) (e))) wx := fun wx => by
          have h := run_slice_string_if (P := Tryz.prog) (w := wx) 9 s .i64 .i64 ((i : Int)) ((e : Int)) Tryz.underlying9
          rw [if_pos (by omega), if_pos (by omega), show ((i : Int)).toNat = i by omega, show ((e : Int)).toNat = e by omega] at h
          exact h
        cases fin
        · have GU := hideT (fun W => unless_is 5 (s.extract i e) e true false W)
          rw [if_pos (by simp)] at GU
          unfold opV at GU
          go_wp2_with fail
          refine (GU.out _).mono ?_
          rintro e w1 ⟨rfl, b1⟩
          replace qT := qT.later b1
          replace hB := hB.trans (b1.mono hB.size)
          clear b1
          have fz := fun o => qT.frozen o
          have t0 := qT.cell 0
          have t1 := qT.cell 1
          have t2 := qT.cell 2
          have t3 := qT.cell 3
          have t4 := qT.cell 4
          have t5 := qT.cell 5
          simp only [List.getElem?_toArray, List.getElem?_cons_zero, List.getElem?_cons_succ] at t0 t1 t2 t3 t4 t5
          go_wp2
          clear fz t0 t1 t2 t3 t4 t5
          obtain ⟨k6, q6⟩ := qT.set6 (.int .i64 1) (.int .i64 0) (.string ⟨#[]⟩) (.int .i64 0) (.int .i64 0) (.int .i64 0)
          unfold set6 at k6 q6
          have x0 := q6.cell 0
          have x1 := q6.cell 1
          have x2 := q6.cell 2
          have x3 := q6.cell 3
          have x4 := q6.cell 4
          have x5 := q6.cell 5
          simp only [List.getElem?_toArray, List.getElem?_cons_zero, List.getElem?_cons_succ] at x0 x1 x2 x3 x4 x5
          replace hB := hB.trans ((k6.below (Nat.le_refl _)).mono (Nat.le_refl _))
          clear k6 q6 qT
          generalize ((((((w1.setCell ⟨w.heap.size, 0, none⟩ (.int .i64 1)).setCell ⟨w.heap.size, 1, none⟩ (.int .i64 0)).setCell ⟨w.heap.size, 2, none⟩ (.string ⟨#[]⟩)).setCell ⟨w.heap.size, 3, none⟩ (.int .i64 0)).setCell ⟨w.heap.size, 4, none⟩ (.int .i64 0)).setCell ⟨w.heap.size, 5, none⟩ (.int .i64 0)) = w9 at x0 x1 x2 x3 x4 x5 hB ⊢
          refine bodyPost_ret (v := .agg #[.int .i64 1, .int .i64 0, .string ⟨#[]⟩, .int .i64 0, .int .i64 0, .int .i64 0]) (by rw [results_c rfl]; go_simp) rfl ?_
          refine ⟨?_, hB⟩
          rw [hX, seenV_open HEE.out]; rfl
        · have GU := hideT (fun W => unless_is 5 (s.extract i e) e true true W)
          rw [if_neg (by simp)] at GU
          unfold whV at GU
          go_wp2_with fail
          refine (GU.out _).mono ?_
          rintro e w1 ⟨rfl, b1⟩
          replace qT := qT.later b1
          replace hB := hB.trans (b1.mono hB.size)
          clear b1
          have fz := fun o => qT.frozen o
          have t0 := qT.cell 0
          have t1 := qT.cell 1
          have t2 := qT.cell 2
          have t3 := qT.cell 3
          have t4 := qT.cell 4
          have t5 := qT.cell 5
          simp only [List.getElem?_toArray, List.getElem?_cons_zero, List.getElem?_cons_succ] at t0 t1 t2 t3 t4 t5
          go_wp2
          clear fz t0 t1 t2 t3 t4 t5
          obtain ⟨k6, q6⟩ := qT.set6 (.int .i64 0) (.int .i64 5) (.string (s.extract i e)) (.int .i64 e) (.int .i64 0) (.int .i64 0)
          unfold set6 at k6 q6
          have x0 := q6.cell 0
          have x1 := q6.cell 1
          have x2 := q6.cell 2
          have x3 := q6.cell 3
          have x4 := q6.cell 4
          have x5 := q6.cell 5
          simp only [List.getElem?_toArray, List.getElem?_cons_zero, List.getElem?_cons_succ] at x0 x1 x2 x3 x4 x5
          replace hB := hB.trans ((k6.below (Nat.le_refl _)).mono (Nat.le_refl _))
          clear k6 q6 qT
          generalize ((((((w1.setCell ⟨w.heap.size, 0, none⟩ (.int .i64 0)).setCell ⟨w.heap.size, 1, none⟩ (.int .i64 5)).setCell ⟨w.heap.size, 2, none⟩ (.string (s.extract i e))).setCell ⟨w.heap.size, 3, none⟩ (.int .i64 e)).setCell ⟨w.heap.size, 4, none⟩ (.int .i64 0)).setCell ⟨w.heap.size, 5, none⟩ (.int .i64 0)) = w9 at x0 x1 x2 x3 x4 x5 hB ⊢
          refine bodyPost_ret (v := .agg #[.int .i64 0, .int .i64 5, .string (s.extract i e), .int .i64 e, .int .i64 0, .int .i64 0]) (by rw [results_c rfl]; go_simp) rfl ?_
          refine ⟨?_, hB⟩
          rw [hX, seenV_whole (by simp), sub_is HSS.out]; rfl
  · have x48 : (((s[i]'hi).toNat : Int) == 48) = false := by rw [← hbi, beq_eq_false_iff_ne]; omega
    have HXN := hideT (show nubP S i e = X by rw [← HX0.out, if_neg (fun c => h48 c.1)])
    clear HX0 h48 hbi
    by_cases hl0 : e < s.size
    · have xl0 : ((e : Int) < (s.size : Int)) := by omega
      have hb0 := byt_of hl0
      have hy0 := HY.out e hl0
      by_cases h46 : byt s e = 46
      · have x46 : (((s[e]'hl0).toNat : Int) == 46) = true := by rw [← hb0, h46]; rfl
        have hX1 := HXN.out
        unfold nubP at hX1
        rw [← HL.out, if_pos ⟨hl0, by rw [hy0]; exact h46⟩] at hX1
        have HX1 := hideT hX1
        clear hX1 HXN hb0 hy0 h46
        obtain ⟨f, hfr⟩ : ∃ f, runE dgN S (e + 1) = f := ⟨_, rfl⟩
        have hr := runE_spec dgN S (e + 1) (by rw [← HL.out]; omega)
        rw [hfr, ← HL.out] at hr
        obtain ⟨q1, q2, _⟩ := hr
        have GF := hideT (fun W => digEnd_d s S HSS.out (e + 1) W hsz (by omega))
        rw [hfr, show ((e + 1 : Nat) : Int) = (e : Int) + 1 by omega] at GF
        have hX2 := HX1.out
        rw [hfr] at hX2
        have HX2 := hideT hX2
        clear hX2 HX1 hfr
        by_cases h1 : e + 1 = s.size
        · have x1 : (((e : Int) + 1) == (s.size : Int)) = true := by rw [beq_iff_eq]; omega
          have hX : X = .half 120 := by rw [← HX2.out, if_pos h1]
          have xf : ((f : Int) == (e : Int) + 1) = true := by rw [beq_iff_eq]; omega
          clear h1
          cases fin
          · skip
            have fz := fun o => qT.frozen o
            have t0 := qT.cell 0
            have t1 := qT.cell 1
            have t2 := qT.cell 2
            have t3 := qT.cell 3
            have t4 := qT.cell 4
            have t5 := qT.cell 5
            simp only [List.getElem?_toArray, List.getElem?_cons_zero, List.getElem?_cons_succ] at t0 t1 t2 t3 t4 t5
            go_wp2
            clear fz t0 t1 t2 t3 t4 t5
            obtain ⟨k6, q6⟩ := qT.set6 (.int .i64 1) (.int .i64 0) (.string ⟨#[]⟩) (.int .i64 0) (.int .i64 0) (.int .i64 0)
            unfold set6 at k6 q6
            have x0 := q6.cell 0
            have x1 := q6.cell 1
            have x2 := q6.cell 2
            have x3 := q6.cell 3
            have x4 := q6.cell 4
            have x5 := q6.cell 5
            simp only [List.getElem?_toArray, List.getElem?_cons_zero, List.getElem?_cons_succ] at x0 x1 x2 x3 x4 x5
            replace hB := hB.trans ((k6.below (Nat.le_refl _)).mono (Nat.le_refl _))
            clear k6 q6 qT
            generalize ((((((w1.setCell ⟨w.heap.size, 0, none⟩ (.int .i64 1)).setCell ⟨w.heap.size, 1, none⟩ (.int .i64 0)).setCell ⟨w.heap.size, 2, none⟩ (.string ⟨#[]⟩)).setCell ⟨w.heap.size, 3, none⟩ (.int .i64 0)).setCell ⟨w.heap.size, 4, none⟩ (.int .i64 0)).setCell ⟨w.heap.size, 5, none⟩ (.int .i64 0)) = w9 at x0 x1 x2 x3 x4 x5 hB ⊢
            refine bodyPost_ret (v := .agg #[.int .i64 1, .int .i64 0, .string ⟨#[]⟩, .int .i64 0, .int .i64 0, .int .i64 0]) (by rw [results_c rfl]; go_simp) rfl ?_
            refine ⟨?_, hB⟩
            rw [hX]; rfl
          · skip
            go_wp2_with fail
            refine (GF.out _).mono ?_
            rintro e w1 ⟨rfl, rfl⟩
            have GBD := hideT (fun W => bad_is i W)
            unfold wrV at GBD
            go_wp2_with fail
            refine (GBD.out _).mono ?_
            rintro e w1 ⟨rfl, b1⟩
            replace qT := qT.later b1
            replace hB := hB.trans (b1.mono hB.size)
            clear b1
            have fz := fun o => qT.frozen o
            have t0 := qT.cell 0
            have t1 := qT.cell 1
            have t2 := qT.cell 2
            have t3 := qT.cell 3
            have t4 := qT.cell 4
            have t5 := qT.cell 5
            simp only [List.getElem?_toArray, List.getElem?_cons_zero, List.getElem?_cons_succ] at t0 t1 t2 t3 t4 t5
            go_wp2
            clear fz t0 t1 t2 t3 t4 t5
            obtain ⟨k6, q6⟩ := qT.set6 (.int .i64 2) (.int .i64 0) (.string ⟨#[]⟩) (.int .i64 0) (.int .i64 120) (.int .i64 i)
            unfold set6 at k6 q6
            have x0 := q6.cell 0
            have x1 := q6.cell 1
            have x2 := q6.cell 2
            have x3 := q6.cell 3
            have x4 := q6.cell 4
            have x5 := q6.cell 5
            simp only [List.getElem?_toArray, List.getElem?_cons_zero, List.getElem?_cons_succ] at x0 x1 x2 x3 x4 x5
            replace hB := hB.trans ((k6.below (Nat.le_refl _)).mono (Nat.le_refl _))
            clear k6 q6 qT
            generalize ((((((w1.setCell ⟨w.heap.size, 0, none⟩ (.int .i64 2)).setCell ⟨w.heap.size, 1, none⟩ (.int .i64 0)).setCell ⟨w.heap.size, 2, none⟩ (.string ⟨#[]⟩)).setCell ⟨w.heap.size, 3, none⟩ (.int .i64 0)).setCell ⟨w.heap.size, 4, none⟩ (.int .i64 120)).setCell ⟨w.heap.size, 5, none⟩ (.int .i64 i)) = w9 at x0 x1 x2 x3 x4 x5 hB ⊢
            refine bodyPost_ret (v := .agg #[.int .i64 2, .int .i64 0, .string ⟨#[]⟩, .int .i64 0, .int .i64 120, .int .i64 i]) (by rw [results_c rfl]; go_simp) rfl ?_
            refine ⟨?_, hB⟩
            rw [hX]; rfl
        · have x1 : (((e : Int) + 1) == (s.size : Int)) = false := by rw [beq_eq_false_iff_ne]; omega
          have hX3 := HX2.out
          rw [if_neg h1] at hX3
          clear HX2 h1
          by_cases h2 : f = e + 1
          · have xf : ((f : Int) == (e : Int) + 1) = true := by rw [beq_iff_eq]; omega
            have hX : X = .bad i := by rw [← hX3, if_pos h2]
            clear h2 hX3
            go_wp2_with fail
            refine (GF.out _).mono ?_
            rintro e w1 ⟨rfl, rfl⟩
            have GBD := hideT (fun W => bad_is i W)
            unfold wrV at GBD
            go_wp2_with fail
            refine (GBD.out _).mono ?_
            rintro e w1 ⟨rfl, b1⟩
            replace qT := qT.later b1
            replace hB := hB.trans (b1.mono hB.size)
            clear b1
            have fz := fun o => qT.frozen o
            have t0 := qT.cell 0
            have t1 := qT.cell 1
            have t2 := qT.cell 2
            have t3 := qT.cell 3
            have t4 := qT.cell 4
            have t5 := qT.cell 5
            simp only [List.getElem?_toArray, List.getElem?_cons_zero, List.getElem?_cons_succ] at t0 t1 t2 t3 t4 t5
            go_wp2
            clear fz t0 t1 t2 t3 t4 t5
            obtain ⟨k6, q6⟩ := qT.set6 (.int .i64 2) (.int .i64 0) (.string ⟨#[]⟩) (.int .i64 0) (.int .i64 120) (.int .i64 i)
            unfold set6 at k6 q6
            have x0 := q6.cell 0
            have x1 := q6.cell 1
            have x2 := q6.cell 2
            have x3 := q6.cell 3
            have x4 := q6.cell 4
            have x5 := q6.cell 5
            simp only [List.getElem?_toArray, List.getElem?_cons_zero, List.getElem?_cons_succ] at x0 x1 x2 x3 x4 x5
            replace hB := hB.trans ((k6.below (Nat.le_refl _)).mono (Nat.le_refl _))
            clear k6 q6 qT
            generalize ((((((w1.setCell ⟨w.heap.size, 0, none⟩ (.int .i64 2)).setCell ⟨w.heap.size, 1, none⟩ (.int .i64 0)).setCell ⟨w.heap.size, 2, none⟩ (.string ⟨#[]⟩)).setCell ⟨w.heap.size, 3, none⟩ (.int .i64 0)).setCell ⟨w.heap.size, 4, none⟩ (.int .i64 120)).setCell ⟨w.heap.size, 5, none⟩ (.int .i64 i)) = w9 at x0 x1 x2 x3 x4 x5 hB ⊢
            refine bodyPost_ret (v := .agg #[.int .i64 2, .int .i64 0, .string ⟨#[]⟩, .int .i64 0, .int .i64 120, .int .i64 i]) (by rw [results_c rfl]; go_simp) rfl ?_
            refine ⟨?_, hB⟩
            rw [hX]; rfl
          · have xf : ((f : Int) == (e : Int) + 1) = false := by rw [beq_eq_false_iff_ne]; omega
            rw [if_neg h2] at hX3
            have HXE := hideT hX3
            clear hX3 h2
            go_wp2_with fail
            refine (GF.out _).mono ?_
            rintro e w1 ⟨rfl, rfl⟩
            by_cases hl : f < s.size
            · have xl : ((f : Int) < (s.size : Int)) := by omega
              have hbe := byt_of hl
              have hye := HY.out f hl
              have GS := hideT (fun W => symbolByte_is (byt s f) W)
              rcases hs : syN (byt s f) with _ | _
              · have hX : X = .tok 6 (bts (subS S i f)) f false := by rw [← HXE.out]; unfold nueP; rw [if_neg (by rw [hye, hs]; simp)]
                rw [hs, hbe] at GS
                clear hs hbe hye
                go_wp2_with fail
                refine (GS.out _).mono ?_
                rintro e w1 ⟨rfl, rfl⟩
                have hsl : ∀ wx : World, (Instr.slice 9 (.string s) (some (.int .i64 ((i : Int)))) (some (.int .i64 ((f : Int)))) none).run Tryz.prog wx = .ok (.string (s.extract (i) (f))) wx := fun wx => by
                  have h := run_slice_string_if (P := Tryz.prog) (w := wx) 9 s .i64 .i64 ((i : Int)) ((f : Int)) Tryz.underlying9
                  rw [if_pos (by omega), if_pos (by omega), show ((i : Int)).toNat = i by omega, show ((f : Int)).toNat = f by omega] at h
                  exact h
                have xe : ((f : Int) == (s.size : Int)) = false := by rw [beq_eq_false_iff_ne]; omega
                have HEE := hideT (show ¬ f = s.size by omega)
                have GU := hideT (fun W => unless_is 6 (s.extract i f) f false fin W)
                rw [if_neg (by simp)] at GU
                unfold whV at GU
                go_wp2_with fail
                refine (GU.out _).mono ?_
                rintro e w1 ⟨rfl, b1⟩
                replace qT := qT.later b1
                replace hB := hB.trans (b1.mono hB.size)
                clear b1
                have fz := fun o => qT.frozen o
                have t0 := qT.cell 0
                have t1 := qT.cell 1
                have t2 := qT.cell 2
                have t3 := qT.cell 3
                have t4 := qT.cell 4
                have t5 := qT.cell 5
                simp only [List.getElem?_toArray, List.getElem?_cons_zero, List.getElem?_cons_succ] at t0 t1 t2 t3 t4 t5
                go_wp2
                clear fz t0 t1 t2 t3 t4 t5
                obtain ⟨k6, q6⟩ := qT.set6 (.int .i64 0) (.int .i64 6) (.string (s.extract i f)) (.int .i64 f) (.int .i64 0) (.int .i64 0)
                unfold set6 at k6 q6
                have x0 := q6.cell 0
                have x1 := q6.cell 1
                have x2 := q6.cell 2
                have x3 := q6.cell 3
                have x4 := q6.cell 4
                have x5 := q6.cell 5
                simp only [List.getElem?_toArray, List.getElem?_cons_zero, List.getElem?_cons_succ] at x0 x1 x2 x3 x4 x5
                replace hB := hB.trans ((k6.below (Nat.le_refl _)).mono (Nat.le_refl _))
                clear k6 q6 qT
                generalize ((((((w1.setCell ⟨w.heap.size, 0, none⟩ (.int .i64 0)).setCell ⟨w.heap.size, 1, none⟩ (.int .i64 6)).setCell ⟨w.heap.size, 2, none⟩ (.string (s.extract i f))).setCell ⟨w.heap.size, 3, none⟩ (.int .i64 f)).setCell ⟨w.heap.size, 4, none⟩ (.int .i64 0)).setCell ⟨w.heap.size, 5, none⟩ (.int .i64 0)) = w9 at x0 x1 x2 x3 x4 x5 hB ⊢
                refine bodyPost_ret (v := .agg #[.int .i64 0, .int .i64 6, .string (s.extract i f), .int .i64 f, .int .i64 0, .int .i64 0]) (by rw [results_c rfl]; go_simp) rfl ?_
                refine ⟨?_, hB⟩
                rw [hX, seenV_whole (fun c => HEE.out c.2.1), sub_is HSS.out]; rfl
              · have hX : X = .bad i := by rw [← HXE.out]; unfold nueP; rw [if_pos ⟨by rw [← HL.out]; exact hl, by rw [hye]; exact hs⟩]
                rw [hs, hbe] at GS
                clear hs hbe hye
                go_wp2_with fail
                refine (GS.out _).mono ?_
                rintro e w1 ⟨rfl, rfl⟩
                have GBD := hideT (fun W => bad_is i W)
                unfold wrV at GBD
                go_wp2_with fail
                refine (GBD.out _).mono ?_
                rintro e w1 ⟨rfl, b1⟩
                replace qT := qT.later b1
                replace hB := hB.trans (b1.mono hB.size)
                clear b1
                have fz := fun o => qT.frozen o
                have t0 := qT.cell 0
                have t1 := qT.cell 1
                have t2 := qT.cell 2
                have t3 := qT.cell 3
                have t4 := qT.cell 4
                have t5 := qT.cell 5
                simp only [List.getElem?_toArray, List.getElem?_cons_zero, List.getElem?_cons_succ] at t0 t1 t2 t3 t4 t5
                go_wp2
                clear fz t0 t1 t2 t3 t4 t5
                obtain ⟨k6, q6⟩ := qT.set6 (.int .i64 2) (.int .i64 0) (.string ⟨#[]⟩) (.int .i64 0) (.int .i64 120) (.int .i64 i)
                unfold set6 at k6 q6
                have x0 := q6.cell 0
                have x1 := q6.cell 1
                have x2 := q6.cell 2
                have x3 := q6.cell 3
                have x4 := q6.cell 4
                have x5 := q6.cell 5
                simp only [List.getElem?_toArray, List.getElem?_cons_zero, List.getElem?_cons_succ] at x0 x1 x2 x3 x4 x5
                replace hB := hB.trans ((k6.below (Nat.le_refl _)).mono (Nat.le_refl _))
                clear k6 q6 qT
                generalize ((((((w1.setCell ⟨w.heap.size, 0, none⟩ (.int .i64 2)).setCell ⟨w.heap.size, 1, none⟩ (.int .i64 0)).setCell ⟨w.heap.size, 2, none⟩ (.string ⟨#[]⟩)).setCell ⟨w.heap.size, 3, none⟩ (.int .i64 0)).setCell ⟨w.heap.size, 4, none⟩ (.int .i64 120)).setCell ⟨w.heap.size, 5, none⟩ (.int .i64 i)) = w9 at x0 x1 x2 x3 x4 x5 hB ⊢
                refine bodyPost_ret (v := .agg #[.int .i64 2, .int .i64 0, .string ⟨#[]⟩, .int .i64 0, .int .i64 120, .int .i64 i]) (by rw [results_c rfl]; go_simp) rfl ?_
                refine ⟨?_, hB⟩
                rw [hX]; rfl
            · have xl : ¬ ((f : Int) < (s.size : Int)) := by omega
              have HEE := hideT (show f = s.size by omega)
              have xe : ((f : Int) == (s.size : Int)) = true := by rw [beq_iff_eq]; omega
              have hX : X = .tok 6 (bts (subS S i f)) f false := by rw [← HXE.out]; unfold nueP; rw [if_neg (fun c => hl (by rw [HL.out]; exact c.1))]
              have hsl : ∀ wx : World, (Instr.slice 9 (.string s) (some (.int .i64 ((i : Int)))) (some (.int .i64 ((f : Int)))) none).run Tryz.prog wx = .ok (.string (s.extract (i) (f))) wx := fun wx => by
                have h := run_slice_string_if (P := Tryz.prog) (w := wx) 9 s .i64 .i64 ((i : Int)) ((f : Int)) Tryz.underlying9
                rw [if_pos (by omega), if_pos (by omega), show ((i : Int)).toNat = i by omega, show ((f : Int)).toNat = f by omega] at h
                exact h
              cases fin
              · have GU := hideT (fun W => unless_is 6 (s.extract i f) f true false W)
                rw [if_pos (by simp)] at GU
                unfold opV at GU
                go_wp2_with fail
                refine (GU.out _).mono ?_
                rintro e w1 ⟨rfl, b1⟩
                replace qT := qT.later b1
                replace hB := hB.trans (b1.mono hB.size)
                clear b1
                have fz := fun o => qT.frozen o
                have t0 := qT.cell 0
                have t1 := qT.cell 1
                have t2 := qT.cell 2
                have t3 := qT.cell 3
                have t4 := qT.cell 4
                have t5 := qT.cell 5
                simp only [List.getElem?_toArray, List.getElem?_cons_zero, List.getElem?_cons_succ] at t0 t1 t2 t3 t4 t5
                go_wp2
                clear fz t0 t1 t2 t3 t4 t5
                obtain ⟨k6, q6⟩ := qT.set6 (.int .i64 1) (.int .i64 0) (.string ⟨#[]⟩) (.int .i64 0) (.int .i64 0) (.int .i64 0)
                unfold set6 at k6 q6
                have x0 := q6.cell 0
                have x1 := q6.cell 1
                have x2 := q6.cell 2
                have x3 := q6.cell 3
                have x4 := q6.cell 4
                have x5 := q6.cell 5
                simp only [List.getElem?_toArray, List.getElem?_cons_zero, List.getElem?_cons_succ] at x0 x1 x2 x3 x4 x5
                replace hB := hB.trans ((k6.below (Nat.le_refl _)).mono (Nat.le_refl _))
                clear k6 q6 qT
                generalize ((((((w1.setCell ⟨w.heap.size, 0, none⟩ (.int .i64 1)).setCell ⟨w.heap.size, 1, none⟩ (.int .i64 0)).setCell ⟨w.heap.size, 2, none⟩ (.string ⟨#[]⟩)).setCell ⟨w.heap.size, 3, none⟩ (.int .i64 0)).setCell ⟨w.heap.size, 4, none⟩ (.int .i64 0)).setCell ⟨w.heap.size, 5, none⟩ (.int .i64 0)) = w9 at x0 x1 x2 x3 x4 x5 hB ⊢
                refine bodyPost_ret (v := .agg #[.int .i64 1, .int .i64 0, .string ⟨#[]⟩, .int .i64 0, .int .i64 0, .int .i64 0]) (by rw [results_c rfl]; go_simp) rfl ?_
                refine ⟨?_, hB⟩
                rw [hX, seenV_open HEE.out]; rfl
              · have GU := hideT (fun W => unless_is 6 (s.extract i f) f true true W)
                rw [if_neg (by simp)] at GU
                unfold whV at GU
                go_wp2_with fail
                refine (GU.out _).mono ?_
                rintro e w1 ⟨rfl, b1⟩
                replace qT := qT.later b1
                replace hB := hB.trans (b1.mono hB.size)
                clear b1
                have fz := fun o => qT.frozen o
                have t0 := qT.cell 0
                have t1 := qT.cell 1
                have t2 := qT.cell 2
                have t3 := qT.cell 3
                have t4 := qT.cell 4
                have t5 := qT.cell 5
                simp only [List.getElem?_toArray, List.getElem?_cons_zero, List.getElem?_cons_succ] at t0 t1 t2 t3 t4 t5
                go_wp2
                clear fz t0 t1 t2 t3 t4 t5
                obtain ⟨k6, q6⟩ := qT.set6 (.int .i64 0) (.int .i64 6) (.string (s.extract i f)) (.int .i64 f) (.int .i64 0) (.int .i64 0)
                unfold set6 at k6 q6
                have x0 := q6.cell 0
                have x1 := q6.cell 1
                have x2 := q6.cell 2
                have x3 := q6.cell 3
                have x4 := q6.cell 4
                have x5 := q6.cell 5
                simp only [List.getElem?_toArray, List.getElem?_cons_zero, List.getElem?_cons_succ] at x0 x1 x2 x3 x4 x5
                replace hB := hB.trans ((k6.below (Nat.le_refl _)).mono (Nat.le_refl _))
                clear k6 q6 qT
                generalize ((((((w1.setCell ⟨w.heap.size, 0, none⟩ (.int .i64 0)).setCell ⟨w.heap.size, 1, none⟩ (.int .i64 6)).setCell ⟨w.heap.size, 2, none⟩ (.string (s.extract i f))).setCell ⟨w.heap.size, 3, none⟩ (.int .i64 f)).setCell ⟨w.heap.size, 4, none⟩ (.int .i64 0)).setCell ⟨w.heap.size, 5, none⟩ (.int .i64 0)) = w9 at x0 x1 x2 x3 x4 x5 hB ⊢
                refine bodyPost_ret (v := .agg #[.int .i64 0, .int .i64 6, .string (s.extract i f), .int .i64 f, .int .i64 0, .int .i64 0]) (by rw [results_c rfl]; go_simp) rfl ?_
                refine ⟨?_, hB⟩
                rw [hX, seenV_whole (by simp), sub_is HSS.out]; rfl
      · have x46 : (((s[e]'hl0).toNat : Int) == 46) = false := by rw [← hb0, beq_eq_false_iff_ne]; omega
        have hX1 := HXN.out
        unfold nubP at hX1
        rw [if_neg (fun c => h46 (by rw [← hy0]; exact c.2))] at hX1
        have HXE := hideT hX1
        clear hX1 HXN hb0 hy0 h46
        have hl := hl0
        have xl : ((e : Int) < (s.size : Int)) := by omega
        have hbe := byt_of hl
        have hye := HY.out e hl
        have GS := hideT (fun W => symbolByte_is (byt s e) W)
        rcases hs : syN (byt s e) with _ | _
        · have hX : X = .tok 5 (bts (subS S i e)) e false := by rw [← HXE.out]; unfold nueP; rw [if_neg (by rw [hye, hs]; simp)]
          rw [hs, hbe] at GS
          clear hs hbe hye
          go_wp2_with fail
          refine (GS.out _).mono ?_
          rintro e w1 ⟨rfl, rfl⟩
          have hsl : ∀ wx : World, (Instr.slice 9 (.string s) (some (.int .i64 ((i : Int)))) (some (.int .i64 ((e : Int)))) none).run Tryz.prog wx = .ok (.string (s.extract (i) (e))) wx := fun wx => by
            have h := run_slice_string_if (P := Tryz.prog) (w := wx) 9 s .i64 .i64 ((i : Int)) ((e : Int)) Tryz.underlying9
            rw [if_pos (by omega), if_pos (by omega), show ((i : Int)).toNat = i by omega, show ((e : Int)).toNat = e by omega] at h
            exact h
          have xe : ((e : Int) == (s.size : Int)) = false := by rw [beq_eq_false_iff_ne]; omega
          have HEE := hideT (show ¬ e = s.size by omega)
          have GU := hideT (fun W => unless_is 5 (s.extract i e) e false fin W)
          rw [if_neg (by simp)] at GU
          unfold whV at GU
          go_wp2_with fail
          refine (GU.out _).mono ?_
          rintro e w1 ⟨rfl, b1⟩
          replace qT := qT.later b1
          replace hB := hB.trans (b1.mono hB.size)
          clear b1
          have fz := fun o => qT.frozen o
          have t0 := qT.cell 0
          have t1 := qT.cell 1
          have t2 := qT.cell 2
          have t3 := qT.cell 3
          have t4 := qT.cell 4
          have t5 := qT.cell 5
          simp only [List.getElem?_toArray, List.getElem?_cons_zero, List.getElem?_cons_succ] at t0 t1 t2 t3 t4 t5
          go_wp2
          clear fz t0 t1 t2 t3 t4 t5
          obtain ⟨k6, q6⟩ := qT.set6 (.int .i64 0) (.int .i64 5) (.string (s.extract i e)) (.int .i64 e) (.int .i64 0) (.int .i64 0)
          unfold set6 at k6 q6
          have x0 := q6.cell 0
          have x1 := q6.cell 1
          have x2 := q6.cell 2
          have x3 := q6.cell 3
          have x4 := q6.cell 4
          have x5 := q6.cell 5
          simp only [List.getElem?_toArray, List.getElem?_cons_zero, List.getElem?_cons_succ] at x0 x1 x2 x3 x4 x5
          replace hB := hB.trans ((k6.below (Nat.le_refl _)).mono (Nat.le_refl _))
          clear k6 q6 qT
          generalize ((((((w1.setCell ⟨w.heap.size, 0, none⟩ (.int .i64 0)).setCell ⟨w.heap.size, 1, none⟩ (.int .i64 5)).setCell ⟨w.heap.size, 2, none⟩ (.string (s.extract i e))).setCell ⟨w.heap.size, 3, none⟩ (.int .i64 e)).setCell ⟨w.heap.size, 4, none⟩ (.int .i64 0)).setCell ⟨w.heap.size, 5, none⟩ (.int .i64 0)) = w9 at x0 x1 x2 x3 x4 x5 hB ⊢
          refine bodyPost_ret (v := .agg #[.int .i64 0, .int .i64 5, .string (s.extract i e), .int .i64 e, .int .i64 0, .int .i64 0]) (by rw [results_c rfl]; go_simp) rfl ?_
          refine ⟨?_, hB⟩
          rw [hX, seenV_whole (fun c => HEE.out c.2.1), sub_is HSS.out]; rfl
        · have hX : X = .bad i := by rw [← HXE.out]; unfold nueP; rw [if_pos ⟨by rw [← HL.out]; exact hl, by rw [hye]; exact hs⟩]
          rw [hs, hbe] at GS
          clear hs hbe hye
          go_wp2_with fail
          refine (GS.out _).mono ?_
          rintro e w1 ⟨rfl, rfl⟩
          have GBD := hideT (fun W => bad_is i W)
          unfold wrV at GBD
          go_wp2_with fail
          refine (GBD.out _).mono ?_
          rintro e w1 ⟨rfl, b1⟩
          replace qT := qT.later b1
          replace hB := hB.trans (b1.mono hB.size)
          clear b1
          have fz := fun o => qT.frozen o
          have t0 := qT.cell 0
          have t1 := qT.cell 1
          have t2 := qT.cell 2
          have t3 := qT.cell 3
          have t4 := qT.cell 4
          have t5 := qT.cell 5
          simp only [List.getElem?_toArray, List.getElem?_cons_zero, List.getElem?_cons_succ] at t0 t1 t2 t3 t4 t5
          go_wp2
          clear fz t0 t1 t2 t3 t4 t5
          obtain ⟨k6, q6⟩ := qT.set6 (.int .i64 2) (.int .i64 0) (.string ⟨#[]⟩) (.int .i64 0) (.int .i64 120) (.int .i64 i)
          unfold set6 at k6 q6
          have x0 := q6.cell 0
          have x1 := q6.cell 1
          have x2 := q6.cell 2
          have x3 := q6.cell 3
          have x4 := q6.cell 4
          have x5 := q6.cell 5
          simp only [List.getElem?_toArray, List.getElem?_cons_zero, List.getElem?_cons_succ] at x0 x1 x2 x3 x4 x5
          replace hB := hB.trans ((k6.below (Nat.le_refl _)).mono (Nat.le_refl _))
          clear k6 q6 qT
          generalize ((((((w1.setCell ⟨w.heap.size, 0, none⟩ (.int .i64 2)).setCell ⟨w.heap.size, 1, none⟩ (.int .i64 0)).setCell ⟨w.heap.size, 2, none⟩ (.string ⟨#[]⟩)).setCell ⟨w.heap.size, 3, none⟩ (.int .i64 0)).setCell ⟨w.heap.size, 4, none⟩ (.int .i64 120)).setCell ⟨w.heap.size, 5, none⟩ (.int .i64 i)) = w9 at x0 x1 x2 x3 x4 x5 hB ⊢
          refine bodyPost_ret (v := .agg #[.int .i64 2, .int .i64 0, .string ⟨#[]⟩, .int .i64 0, .int .i64 120, .int .i64 i]) (by rw [results_c rfl]; go_simp) rfl ?_
          refine ⟨?_, hB⟩
          rw [hX]; rfl
    · have xl0 : ¬ ((e : Int) < (s.size : Int)) := by omega
      have hX1 := HXN.out
      unfold nubP at hX1
      rw [← HL.out, if_neg (fun c => hl0 c.1)] at hX1
      have HXE := hideT hX1
      clear hX1 HXN
      have hl := hl0
      have xl : ¬ ((e : Int) < (s.size : Int)) := by omega
      have HEE := hideT (show e = s.size by omega)
      have xe : ((e : Int) == (s.size : Int)) = true := by rw [beq_iff_eq]; omega
      have hX : X = .tok 5 (bts (subS S i e)) e false := by rw [← HXE.out]; unfold nueP; rw [if_neg (fun c => hl (by rw [HL.out]; exact c.1))]
      have hsl : ∀ wx : World, (Instr.slice 9 (.string s) (some (.int .i64 ((i : Int)))) (some (.int .i64 ((e : Int)))) none).run Tryz.prog wx = .ok (.string (s.extract (i) (e))) wx := fun wx => by
        have h := run_slice_string_if (P := Tryz.prog) (w := wx) 9 s .i64 .i64 ((i : Int)) ((e : Int)) Tryz.underlying9
        rw [if_pos (by omega), if_pos (by omega), show ((i : Int)).toNat = i by omega, show ((e : Int)).toNat = e by omega] at h
        exact h
      cases fin
      · have GU := hideT (fun W => unless_is 5 (s.extract i e) e true false W)
        rw [if_pos (by simp)] at GU
        unfold opV at GU
        go_wp2_with fail
        refine (GU.out _).mono ?_
        rintro e w1 ⟨rfl, b1⟩
        replace qT := qT.later b1
        replace hB := hB.trans (b1.mono hB.size)
        clear b1
        have fz := fun o => qT.frozen o
        have t0 := qT.cell 0
        have t1 := qT.cell 1
        have t2 := qT.cell 2
        have t3 := qT.cell 3
        have t4 := qT.cell 4
        have t5 := qT.cell 5
        simp only [List.getElem?_toArray, List.getElem?_cons_zero, List.getElem?_cons_succ] at t0 t1 t2 t3 t4 t5
        go_wp2
        clear fz t0 t1 t2 t3 t4 t5
        obtain ⟨k6, q6⟩ := qT.set6 (.int .i64 1) (.int .i64 0) (.string ⟨#[]⟩) (.int .i64 0) (.int .i64 0) (.int .i64 0)
        unfold set6 at k6 q6
        have x0 := q6.cell 0
        have x1 := q6.cell 1
        have x2 := q6.cell 2
        have x3 := q6.cell 3
        have x4 := q6.cell 4
        have x5 := q6.cell 5
        simp only [List.getElem?_toArray, List.getElem?_cons_zero, List.getElem?_cons_succ] at x0 x1 x2 x3 x4 x5
        replace hB := hB.trans ((k6.below (Nat.le_refl _)).mono (Nat.le_refl _))
        clear k6 q6 qT
        generalize ((((((w1.setCell ⟨w.heap.size, 0, none⟩ (.int .i64 1)).setCell ⟨w.heap.size, 1, none⟩ (.int .i64 0)).setCell ⟨w.heap.size, 2, none⟩ (.string ⟨#[]⟩)).setCell ⟨w.heap.size, 3, none⟩ (.int .i64 0)).setCell ⟨w.heap.size, 4, none⟩ (.int .i64 0)).setCell ⟨w.heap.size, 5, none⟩ (.int .i64 0)) = w9 at x0 x1 x2 x3 x4 x5 hB ⊢
        refine bodyPost_ret (v := .agg #[.int .i64 1, .int .i64 0, .string ⟨#[]⟩, .int .i64 0, .int .i64 0, .int .i64 0]) (by rw [results_c rfl]; go_simp) rfl ?_
        refine ⟨?_, hB⟩
        rw [hX, seenV_open HEE.out]; rfl
      · have GU := hideT (fun W => unless_is 5 (s.extract i e) e true true W)
        rw [if_neg (by simp)] at GU
        unfold whV at GU
        go_wp2_with fail
        refine (GU.out _).mono ?_
        rintro e w1 ⟨rfl, b1⟩
        replace qT := qT.later b1
        replace hB := hB.trans (b1.mono hB.size)
        clear b1
        have fz := fun o => qT.frozen o
        have t0 := qT.cell 0
        have t1 := qT.cell 1
        have t2 := qT.cell 2
        have t3 := qT.cell 3
        have t4 := qT.cell 4
        have t5 := qT.cell 5
        simp only [List.getElem?_toArray, List.getElem?_cons_zero, List.getElem?_cons_succ] at t0 t1 t2 t3 t4 t5
        go_wp2
        clear fz t0 t1 t2 t3 t4 t5
        obtain ⟨k6, q6⟩ := qT.set6 (.int .i64 0) (.int .i64 5) (.string (s.extract i e)) (.int .i64 e) (.int .i64 0) (.int .i64 0)
        unfold set6 at k6 q6
        have x0 := q6.cell 0
        have x1 := q6.cell 1
        have x2 := q6.cell 2
        have x3 := q6.cell 3
        have x4 := q6.cell 4
        have x5 := q6.cell 5
        simp only [List.getElem?_toArray, List.getElem?_cons_zero, List.getElem?_cons_succ] at x0 x1 x2 x3 x4 x5
        replace hB := hB.trans ((k6.below (Nat.le_refl _)).mono (Nat.le_refl _))
        clear k6 q6 qT
        generalize ((((((w1.setCell ⟨w.heap.size, 0, none⟩ (.int .i64 0)).setCell ⟨w.heap.size, 1, none⟩ (.int .i64 5)).setCell ⟨w.heap.size, 2, none⟩ (.string (s.extract i e))).setCell ⟨w.heap.size, 3, none⟩ (.int .i64 e)).setCell ⟨w.heap.size, 4, none⟩ (.int .i64 0)).setCell ⟨w.heap.size, 5, none⟩ (.int .i64 0)) = w9 at x0 x1 x2 x3 x4 x5 hB ⊢
        refine bodyPost_ret (v := .agg #[.int .i64 0, .int .i64 5, .string (s.extract i e), .int .i64 e, .int .i64 0, .int .i64 0]) (by rw [results_c rfl]; go_simp) rfl ?_
        refine ⟨?_, hB⟩
        rw [hX, seenV_whole (by simp), sub_is HSS.out]; rfl

end Go.Proofs.YtpfmamimhhnbiaaGreatDoor
