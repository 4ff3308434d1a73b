/-
  The reference's unless, bad, barred.
-/
import Derived.Test.YtibeiggedmabkaaDoorTR3
import Derived.Deep.Cut
namespace Go.Proofs.YtibeiggedmabkaaDoor
open Go.RowKit
set_option linter.unusedVariables false
set_option linter.unusedSimpArgs false

def whV (k : Int) (t : ByteArray) (e : Int) : Value := .agg #[.int .i64 0, .int .i64 k, .string t, .int .i64 e, .int .i64 0, .int .i64 0]
def opV : Value := .agg #[.int .i64 1, .int .i64 0, .string ⟨#[]⟩, .int .i64 0, .int .i64 0, .int .i64 0]
def wrV (c a : Int) : Value := .agg #[.int .i64 2, .int .i64 0, .string ⟨#[]⟩, .int .i64 0, .int .i64 c, .int .i64 a]
/-- what is seen, as the reference hands it back -/
def seenV (n i : Nat) (fin : Bool) : Seen → Value
  | .tok k t e self => if self = false ∧ e = n ∧ fin = false then opV else whV k t e
  | .half c => if fin = true then wrV c i else opV
  | .bad x => wrV 120 x
theorem seenV_agg (n i : Nat) (fin : Bool) (X : Seen) : ∃ (a b : Int) (t : ByteArray) (c d e : Int), seenV n i fin X = .agg #[.int .i64 a, .int .i64 b, .string t, .int .i64 c, .int .i64 d, .int .i64 e] := by
  cases X with
  | tok k t e self =>
    simp only [seenV]
    split
    · exact ⟨_, _, _, _, _, _, rfl⟩
    · exact ⟨_, _, _, _, _, _, rfl⟩
  | half c =>
    simp only [seenV]
    split
    · exact ⟨_, _, _, _, _, _, rfl⟩
    · exact ⟨_, _, _, _, _, _, rfl⟩
  | bad x => exact ⟨_, _, _, _, _, _, rfl⟩
theorem seenV_open {n i k e : Nat} {t : ByteArray} (h : e = n) : seenV n i false (.tok k t e false) = opV := by simp [seenV, h]
theorem seenV_whole {n i k e : Nat} {fin self : Bool} {t : ByteArray} (h : ¬ (self = false ∧ e = n ∧ fin = false)) : seenV n i fin (.tok k t e self) = whV k t e := by simp only [seenV]; rw [if_neg h]
set_option maxHeartbeats 4000000 in
set_option maxRecDepth 100000 in
theorem unless_is (k : Int) (t : ByteArray) (e : Nat) (last fin : Bool) (w : World) : Calls Tryd.prog 71 #[.int .i64 k, .string t, .int .i64 e, .bool last, .bool fin] w fun r w' => r = .returned (if last = true ∧ fin = false then opV else whV k t e) ∧ Below w.heap.size w w' := by
  obtain ⟨V, hV⟩ : ∃ V, (if last = true ∧ fin = false then opV else whV k t e) = V := ⟨_, rfl⟩
  rw [hV]
  have HV := hideT hV
  clear hV
  have hB := below_alloc (w := w) (.cells #[.int .i64 0, .int .i64 0, .string ⟨#[]⟩, .int .i64 0, .int .i64 0, .int .i64 0] 92)
  have qT := Blk.new w #[.int .i64 0, .int .i64 0, .string ⟨#[]⟩, .int .i64 0, .int .i64 0, .int .i64 0] 92
  have eW : (w.alloc (.cells #[.int .i64 0, .int .i64 0, .string ⟨#[]⟩, .int .i64 0, .int .i64 0, .int .i64 0] 92)).heap.size = w.heap.size + 1 := by simp
  go_enter Tryd.func71, Tryd.ntmps71
  go_upto_region 1 with fail
  generalize w.alloc (.cells #[.int .i64 0, .int .i64 0, .string ⟨#[]⟩, .int .i64 0, .int .i64 0, .int .i64 0] 92) = W at hB qT eW ⊢
  cases last
  · skip
    have fz := fun o => qT.frozen o
    have t0 := qT.cell 0
    have t1 := qT.cell 1
    have t2 := qT.cell 2
    have t3 := qT.cell 3
    have t4 := qT.cell 4
    have t5 := qT.cell 5
    simp only [List.getElem?_toArray, List.getElem?_cons_zero, List.getElem?_cons_succ] at t0 t1 t2 t3 t4 t5
    go_wp2
    clear fz t0 t1 t2 t3 t4 t5
    obtain ⟨k6, q6⟩ := qT.set6 (.int .i64 0) (.int .i64 k) (.string t) (.int .i64 e) (.int .i64 0) (.int .i64 0)
    unfold set6 at k6 q6
    have x0 := q6.cell 0
    have x1 := q6.cell 1
    have x2 := q6.cell 2
    have x3 := q6.cell 3
    have x4 := q6.cell 4
    have x5 := q6.cell 5
    simp only [List.getElem?_toArray, List.getElem?_cons_zero, List.getElem?_cons_succ] at x0 x1 x2 x3 x4 x5
    replace hB := hB.trans ((k6.below (Nat.le_refl _)).mono (Nat.le_refl _))
    clear k6 q6 qT
    generalize ((((((W.setCell ⟨w.heap.size, 0, none⟩ (.int .i64 0)).setCell ⟨w.heap.size, 1, none⟩ (.int .i64 k)).setCell ⟨w.heap.size, 2, none⟩ (.string t)).setCell ⟨w.heap.size, 3, none⟩ (.int .i64 e)).setCell ⟨w.heap.size, 4, none⟩ (.int .i64 0)).setCell ⟨w.heap.size, 5, none⟩ (.int .i64 0)) = w9 at x0 x1 x2 x3 x4 x5 hB ⊢
    refine bodyPost_ret (v := .agg #[.int .i64 0, .int .i64 k, .string t, .int .i64 e, .int .i64 0, .int .i64 0]) (by rw [results_c rfl]; go_simp) rfl ?_
    refine ⟨?_, hB⟩
    rw [← HV.out, if_neg (by simp)]; rfl
  · cases fin
    · skip
      have fz := fun o => qT.frozen o
      have t0 := qT.cell 0
      have t1 := qT.cell 1
      have t2 := qT.cell 2
      have t3 := qT.cell 3
      have t4 := qT.cell 4
      have t5 := qT.cell 5
      simp only [List.getElem?_toArray, List.getElem?_cons_zero, List.getElem?_cons_succ] at t0 t1 t2 t3 t4 t5
      go_wp2
      clear fz t0 t1 t2 t3 t4 t5
      obtain ⟨k6, q6⟩ := qT.set6 (.int .i64 1) (.int .i64 0) (.string ⟨#[]⟩) (.int .i64 0) (.int .i64 0) (.int .i64 0)
      unfold set6 at k6 q6
      have x0 := q6.cell 0
      have x1 := q6.cell 1
      have x2 := q6.cell 2
      have x3 := q6.cell 3
      have x4 := q6.cell 4
      have x5 := q6.cell 5
      simp only [List.getElem?_toArray, List.getElem?_cons_zero, List.getElem?_cons_succ] at x0 x1 x2 x3 x4 x5
      replace hB := hB.trans ((k6.below (Nat.le_refl _)).mono (Nat.le_refl _))
      clear k6 q6 qT
      generalize ((((((W.setCell ⟨w.heap.size, 0, none⟩ (.int .i64 1)).setCell ⟨w.heap.size, 1, none⟩ (.int .i64 0)).setCell ⟨w.heap.size, 2, none⟩ (.string ⟨#[]⟩)).setCell ⟨w.heap.size, 3, none⟩ (.int .i64 0)).setCell ⟨w.heap.size, 4, none⟩ (.int .i64 0)).setCell ⟨w.heap.size, 5, none⟩ (.int .i64 0)) = w9 at x0 x1 x2 x3 x4 x5 hB ⊢
      refine bodyPost_ret (v := .agg #[.int .i64 1, .int .i64 0, .string ⟨#[]⟩, .int .i64 0, .int .i64 0, .int .i64 0]) (by rw [results_c rfl]; go_simp) rfl ?_
      refine ⟨?_, hB⟩
      rw [← HV.out, if_pos (by simp)]; rfl
    · skip
      have fz := fun o => qT.frozen o
      have t0 := qT.cell 0
      have t1 := qT.cell 1
      have t2 := qT.cell 2
      have t3 := qT.cell 3
      have t4 := qT.cell 4
      have t5 := qT.cell 5
      simp only [List.getElem?_toArray, List.getElem?_cons_zero, List.getElem?_cons_succ] at t0 t1 t2 t3 t4 t5
      go_wp2
      clear fz t0 t1 t2 t3 t4 t5
      obtain ⟨k6, q6⟩ := qT.set6 (.int .i64 0) (.int .i64 k) (.string t) (.int .i64 e) (.int .i64 0) (.int .i64 0)
      unfold set6 at k6 q6
      have x0 := q6.cell 0
      have x1 := q6.cell 1
      have x2 := q6.cell 2
      have x3 := q6.cell 3
      have x4 := q6.cell 4
      have x5 := q6.cell 5
      simp only [List.getElem?_toArray, List.getElem?_cons_zero, List.getElem?_cons_succ] at x0 x1 x2 x3 x4 x5
      replace hB := hB.trans ((k6.below (Nat.le_refl _)).mono (Nat.le_refl _))
      clear k6 q6 qT
      generalize ((((((W.setCell ⟨w.heap.size, 0, none⟩ (.int .i64 0)).setCell ⟨w.heap.size, 1, none⟩ (.int .i64 k)).setCell ⟨w.heap.size, 2, none⟩ (.string t)).setCell ⟨w.heap.size, 3, none⟩ (.int .i64 e)).setCell ⟨w.heap.size, 4, none⟩ (.int .i64 0)).setCell ⟨w.heap.size, 5, none⟩ (.int .i64 0)) = w9 at x0 x1 x2 x3 x4 x5 hB ⊢
      refine bodyPost_ret (v := .agg #[.int .i64 0, .int .i64 k, .string t, .int .i64 e, .int .i64 0, .int .i64 0]) (by rw [results_c rfl]; go_simp) rfl ?_
      refine ⟨?_, hB⟩
      rw [← HV.out, if_neg (by simp)]; rfl

set_option maxHeartbeats 4000000 in
set_option maxRecDepth 100000 in
theorem bad_is (x : Nat) (w : World) : Calls Tryd.prog 72 #[.int .i64 x] w fun r w' => r = .returned (wrV 120 x) ∧ Below w.heap.size w w' := by
  have hB := below_alloc (w := w) (.cells #[.int .i64 0, .int .i64 0, .string ⟨#[]⟩, .int .i64 0, .int .i64 0, .int .i64 0] 92)
  have qT := Blk.new w #[.int .i64 0, .int .i64 0, .string ⟨#[]⟩, .int .i64 0, .int .i64 0, .int .i64 0] 92
  have eW : (w.alloc (.cells #[.int .i64 0, .int .i64 0, .string ⟨#[]⟩, .int .i64 0, .int .i64 0, .int .i64 0] 92)).heap.size = w.heap.size + 1 := by simp
  go_enter Tryd.func72, Tryd.ntmps72
  go_upto_region 1 with fail
  generalize w.alloc (.cells #[.int .i64 0, .int .i64 0, .string ⟨#[]⟩, .int .i64 0, .int .i64 0, .int .i64 0] 92) = W at hB qT eW ⊢
  have fz := fun o => qT.frozen o
  have t0 := qT.cell 0
  have t1 := qT.cell 1
  have t2 := qT.cell 2
  have t3 := qT.cell 3
  have t4 := qT.cell 4
  have t5 := qT.cell 5
  simp only [List.getElem?_toArray, List.getElem?_cons_zero, List.getElem?_cons_succ] at t0 t1 t2 t3 t4 t5
  go_wp2
  clear fz t0 t1 t2 t3 t4 t5
  obtain ⟨k6, q6⟩ := qT.set6 (.int .i64 2) (.int .i64 0) (.string ⟨#[]⟩) (.int .i64 0) (.int .i64 120) (.int .i64 x)
  unfold set6 at k6 q6
  have x0 := q6.cell 0
  have x1 := q6.cell 1
  have x2 := q6.cell 2
  have x3 := q6.cell 3
  have x4 := q6.cell 4
  have x5 := q6.cell 5
  simp only [List.getElem?_toArray, List.getElem?_cons_zero, List.getElem?_cons_succ] at x0 x1 x2 x3 x4 x5
  replace hB := hB.trans ((k6.below (Nat.le_refl _)).mono (Nat.le_refl _))
  clear k6 q6 qT
  generalize ((((((W.setCell ⟨w.heap.size, 0, none⟩ (.int .i64 2)).setCell ⟨w.heap.size, 1, none⟩ (.int .i64 0)).setCell ⟨w.heap.size, 2, none⟩ (.string ⟨#[]⟩)).setCell ⟨w.heap.size, 3, none⟩ (.int .i64 0)).setCell ⟨w.heap.size, 4, none⟩ (.int .i64 120)).setCell ⟨w.heap.size, 5, none⟩ (.int .i64 x)) = w9 at x0 x1 x2 x3 x4 x5 hB ⊢
  refine bodyPost_ret (v := .agg #[.int .i64 2, .int .i64 0, .string ⟨#[]⟩, .int .i64 0, .int .i64 120, .int .i64 x]) (by rw [results_c rfl]; go_simp) rfl ?_
  refine ⟨?_, hB⟩
  rfl

theorem barP_shut {S : List UInt8} {i j : Nat} (h : j < S.length) (hb : byS S j = 124) : barP S i j = .tok 3 (bts (subS S (i + 1) j)) (j + 1) true := by rw [barP, dif_pos h, if_pos hb]
theorem barP_bad {S : List UInt8} {i j : Nat} (h : j < S.length) (hb : byS S j ≠ 124) (hn : nbN (byS S j) = true) : barP S i j = .bad j := by rw [barP, dif_pos h, if_neg hb, if_pos hn]
theorem barP_on {S : List UInt8} {i j : Nat} (h : j < S.length) (hb : byS S j ≠ 124) (hn : nbN (byS S j) = false) : barP S i j = barP S i (j + 1) := by rw [barP, dif_pos h, if_neg hb, if_neg (by rw [hn]; decide)]
theorem barP_end {S : List UInt8} {i j : Nat} (h : ¬ j < S.length) : barP S i j = .half 121 := by rw [barP, dif_neg h]
set_option maxHeartbeats 4000000 in
set_option maxRecDepth 100000 in
theorem barred_is (s : ByteArray) (S : List UInt8) (hS : s.data.toList = S) (i : Nat) (fin : Bool) (w : World) (hsz : s.size ≤ 4294967280) (hi : i < s.size) : Calls Tryd.prog 64 #[.string s, .int .i64 i, .bool fin] w fun r w' => r = .returned (seenV s.size i fin (barP S i (i + 1))) ∧ Below w.heap.size w w' := by
  have hy := fun k (h : k < s.size) => byS_byt h
  have hsl : s.size = S.length := by rw [← hS, Array.length_toList]; rfl
  rw [hS] at hy
  have HSS := hideT hS
  clear hS
  have HY := hideT hy
  have HL := hideT hsl
  clear hy hsl
  have hB := below_alloc (w := w) (.cells #[.int .i64 0, .int .i64 0, .string ⟨#[]⟩, .int .i64 0, .int .i64 0, .int .i64 0] 92)
  have qT := Blk.new w #[.int .i64 0, .int .i64 0, .string ⟨#[]⟩, .int .i64 0, .int .i64 0, .int .i64 0] 92
  have eW : (w.alloc (.cells #[.int .i64 0, .int .i64 0, .string ⟨#[]⟩, .int .i64 0, .int .i64 0, .int .i64 0] 92)).heap.size = w.heap.size + 1 := by simp
  go_enter Tryd.func64, Tryd.ntmps64
  go_upto_region 1 with fail
  generalize w.alloc (.cells #[.int .i64 0, .int .i64 0, .string ⟨#[]⟩, .int .i64 0, .int .i64 0, .int .i64 0] 92) = W at hB qT eW ⊢
  go_wp2
  go_loop [7] (fun v => ∃ k : Nat, i < k ∧ k ≤ s.size ∧ v = .int .i64 k ∧ barP S i k = barP S i (i + 1)) (fun v => s.size - (intOf v).toNat)
  case atStart => exact ⟨i + 1, by omega, by omega, by go_num, rfl⟩
  case round =>
    obtain ⟨k, hik, hk, rfl, hr⟩ := hrel
    have HR := hideT hr
    clear hr
    by_cases hlt : k < s.size
    · have hki : ((k : Int) < (s.size : Int)) := by omega
      have hb := byt_of hlt
      have hyk := HY.out k hlt
      have hkl : k < S.length := by rw [← HL.out]; exact hlt
      by_cases h124 : byt s k = 124
      · have x124 : (((s[k]'hlt).toNat : Int) == 124) = true := by rw [← hb, h124]; rfl
        have HX := hideT (HR.out.symm.trans (barP_shut hkl (by rw [hyk]; exact h124)))
        clear hb hyk hkl HR h124
        have hsl : ∀ wx : World, (Instr.slice 9 (.string s) (some (.int .i64 ((i : Int) + 1))) (some (.int .i64 ((k : Int)))) none).run Tryd.prog wx = .ok (.string (s.extract (i + 1) (k))) wx := fun wx => by
          have h := run_slice_string_if (P := Tryd.prog) (w := wx) 9 s .i64 .i64 ((i : Int) + 1) ((k : Int)) Tryd.underlying9
          rw [if_pos (by omega), if_pos (by omega), show ((i : Int) + 1).toNat = i + 1 by omega, show ((k : Int)).toNat = k by omega] at h
          exact h
        have fz := fun o => qT.frozen o
        have t0 := qT.cell 0
        have t1 := qT.cell 1
        have t2 := qT.cell 2
        have t3 := qT.cell 3
        have t4 := qT.cell 4
        have t5 := qT.cell 5
        simp only [List.getElem?_toArray, List.getElem?_cons_zero, List.getElem?_cons_succ] at t0 t1 t2 t3 t4 t5
        go_wp2
        clear fz t0 t1 t2 t3 t4 t5
        obtain ⟨k6, q6⟩ := qT.set6 (.int .i64 0) (.int .i64 3) (.string (s.extract (i + 1) k)) (.int .i64 ((k : Int) + 1)) (.int .i64 0) (.int .i64 0)
        unfold set6 at k6 q6
        have x0 := q6.cell 0
        have x1 := q6.cell 1
        have x2 := q6.cell 2
        have x3 := q6.cell 3
        have x4 := q6.cell 4
        have x5 := q6.cell 5
        simp only [List.getElem?_toArray, List.getElem?_cons_zero, List.getElem?_cons_succ] at x0 x1 x2 x3 x4 x5
        replace hB := hB.trans ((k6.below (Nat.le_refl _)).mono (Nat.le_refl _))
        clear k6 q6 qT
        generalize ((((((W.setCell ⟨w.heap.size, 0, none⟩ (.int .i64 0)).setCell ⟨w.heap.size, 1, none⟩ (.int .i64 3)).setCell ⟨w.heap.size, 2, none⟩ (.string (s.extract (i + 1) k))).setCell ⟨w.heap.size, 3, none⟩ (.int .i64 ((k : Int) + 1))).setCell ⟨w.heap.size, 4, none⟩ (.int .i64 0)).setCell ⟨w.heap.size, 5, none⟩ (.int .i64 0)) = w9 at x0 x1 x2 x3 x4 x5 hB ⊢
        refine bodyPost_ret (v := .agg #[.int .i64 0, .int .i64 3, .string (s.extract (i + 1) k), .int .i64 ((k : Int) + 1), .int .i64 0, .int .i64 0]) (by rw [results_c rfl]; go_simp) rfl ?_
        refine ⟨?_, hB⟩
        rw [HX.out, seenV_whole (by simp), sub_is HSS.out]; rfl
      · have x124 : (((s[k]'hlt).toNat : Int) == 124) = false := by rw [← hb, beq_eq_false_iff_ne]; omega
        have GQ := hideT (fun W => quotable_is (byt s k) W)
        rw [quN_not] at GQ
        have GBD := hideT (fun W => bad_is k W)
        have hnb : nbN (byt s k) = (nqN (byt s k) || decide (byt s k = 92)) := by unfold nbN; rw [decide_eq_false h124]; simp
        rcases hf : nqN (byt s k) with _ | _
        · rw [hf, hb] at GQ
          rw [hf] at hnb
          by_cases h92 : byt s k = 92
          · have x92 : (((s[k]'hlt).toNat : Int) == 92) = true := by rw [← hb, h92]; rfl
            have HX := hideT (HR.out.symm.trans (barP_bad hkl (by rw [hyk]; exact h124) (by rw [hyk, hnb, h92]; rfl)))
            clear hb hyk hkl HR h124 h92 hnb hf
            go_wp2_with fail
            refine (GQ.out _).mono ?_
            rintro e w1 ⟨rfl, rfl⟩
            unfold wrV at GBD
            go_wp2_with fail
            refine (GBD.out _).mono ?_
            rintro e w1 ⟨rfl, b1⟩
            replace qT := qT.later b1
            replace hB := hB.trans (b1.mono hB.size)
            clear b1
            have fz := fun o => qT.frozen o
            have t0 := qT.cell 0
            have t1 := qT.cell 1
            have t2 := qT.cell 2
            have t3 := qT.cell 3
            have t4 := qT.cell 4
            have t5 := qT.cell 5
            simp only [List.getElem?_toArray, List.getElem?_cons_zero, List.getElem?_cons_succ] at t0 t1 t2 t3 t4 t5
            go_wp2
            clear fz t0 t1 t2 t3 t4 t5
            obtain ⟨k6, q6⟩ := qT.set6 (.int .i64 2) (.int .i64 0) (.string ⟨#[]⟩) (.int .i64 0) (.int .i64 120) (.int .i64 k)
            unfold set6 at k6 q6
            have x0 := q6.cell 0
            have x1 := q6.cell 1
            have x2 := q6.cell 2
            have x3 := q6.cell 3
            have x4 := q6.cell 4
            have x5 := q6.cell 5
            simp only [List.getElem?_toArray, List.getElem?_cons_zero, List.getElem?_cons_succ] at x0 x1 x2 x3 x4 x5
            replace hB := hB.trans ((k6.below (Nat.le_refl _)).mono (Nat.le_refl _))
            clear k6 q6 qT
            generalize ((((((w1.setCell ⟨w.heap.size, 0, none⟩ (.int .i64 2)).setCell ⟨w.heap.size, 1, none⟩ (.int .i64 0)).setCell ⟨w.heap.size, 2, none⟩ (.string ⟨#[]⟩)).setCell ⟨w.heap.size, 3, none⟩ (.int .i64 0)).setCell ⟨w.heap.size, 4, none⟩ (.int .i64 120)).setCell ⟨w.heap.size, 5, none⟩ (.int .i64 k)) = w9 at x0 x1 x2 x3 x4 x5 hB ⊢
            refine bodyPost_ret (v := .agg #[.int .i64 2, .int .i64 0, .string ⟨#[]⟩, .int .i64 0, .int .i64 120, .int .i64 k]) (by rw [results_c rfl]; go_simp) rfl ?_
            refine ⟨?_, hB⟩
            rw [HX.out]; rfl
          · have x92 : (((s[k]'hlt).toNat : Int) == 92) = false := by rw [← hb, beq_eq_false_iff_ne]; omega
            have HE := hideT (show barP S i (k + 1) = barP S i (i + 1) by rw [← barP_on hkl (by rw [hyk]; exact h124) (by rw [hyk, hnb]; simp [h92])]; exact HR.out)
            clear hb hyk hkl HR h124 h92 hnb hf
            go_wp2_with fail
            refine (GQ.out _).mono ?_
            rintro e w1 ⟨rfl, rfl⟩
            go_wp2
            go_round
            case rel => exact ⟨k + 1, by omega, by omega, by go_num, HE.out⟩
            case measure => simp [intOf]; omega
        · rw [hf, hb] at GQ
          rw [hf] at hnb
          have HX := hideT (HR.out.symm.trans (barP_bad hkl (by rw [hyk]; exact h124) (by rw [hyk, hnb]; rfl)))
          clear hb hyk hkl HR h124 hnb hf
          go_wp2_with fail
          refine (GQ.out _).mono ?_
          rintro e w1 ⟨rfl, rfl⟩
          unfold wrV at GBD
          go_wp2_with fail
          refine (GBD.out _).mono ?_
          rintro e w1 ⟨rfl, b1⟩
          replace qT := qT.later b1
          replace hB := hB.trans (b1.mono hB.size)
          clear b1
          have fz := fun o => qT.frozen o
          have t0 := qT.cell 0
          have t1 := qT.cell 1
          have t2 := qT.cell 2
          have t3 := qT.cell 3
          have t4 := qT.cell 4
          have t5 := qT.cell 5
          simp only [List.getElem?_toArray, List.getElem?_cons_zero, List.getElem?_cons_succ] at t0 t1 t2 t3 t4 t5
          go_wp2
          clear fz t0 t1 t2 t3 t4 t5
          obtain ⟨k6, q6⟩ := qT.set6 (.int .i64 2) (.int .i64 0) (.string ⟨#[]⟩) (.int .i64 0) (.int .i64 120) (.int .i64 k)
          unfold set6 at k6 q6
          have x0 := q6.cell 0
          have x1 := q6.cell 1
          have x2 := q6.cell 2
          have x3 := q6.cell 3
          have x4 := q6.cell 4
          have x5 := q6.cell 5
          simp only [List.getElem?_toArray, List.getElem?_cons_zero, List.getElem?_cons_succ] at x0 x1 x2 x3 x4 x5
          replace hB := hB.trans ((k6.below (Nat.le_refl _)).mono (Nat.le_refl _))
          clear k6 q6 qT
          generalize ((((((w1.setCell ⟨w.heap.size, 0, none⟩ (.int .i64 2)).setCell ⟨w.heap.size, 1, none⟩ (.int .i64 0)).setCell ⟨w.heap.size, 2, none⟩ (.string ⟨#[]⟩)).setCell ⟨w.heap.size, 3, none⟩ (.int .i64 0)).setCell ⟨w.heap.size, 4, none⟩ (.int .i64 120)).setCell ⟨w.heap.size, 5, none⟩ (.int .i64 k)) = w9 at x0 x1 x2 x3 x4 x5 hB ⊢
          refine bodyPost_ret (v := .agg #[.int .i64 2, .int .i64 0, .string ⟨#[]⟩, .int .i64 0, .int .i64 120, .int .i64 k]) (by rw [results_c rfl]; go_simp) rfl ?_
          refine ⟨?_, hB⟩
          rw [HX.out]; rfl
    · have hki : ¬ ((k : Int) < (s.size : Int)) := by omega
      have HX := hideT (HR.out.symm.trans (barP_end (by rw [← HL.out]; exact hlt)))
      clear HR
      cases fin
      · skip
        have fz := fun o => qT.frozen o
        have t0 := qT.cell 0
        have t1 := qT.cell 1
        have t2 := qT.cell 2
        have t3 := qT.cell 3
        have t4 := qT.cell 4
        have t5 := qT.cell 5
        simp only [List.getElem?_toArray, List.getElem?_cons_zero, List.getElem?_cons_succ] at t0 t1 t2 t3 t4 t5
        go_wp2
        clear fz t0 t1 t2 t3 t4 t5
        obtain ⟨k6, q6⟩ := qT.set6 (.int .i64 1) (.int .i64 0) (.string ⟨#[]⟩) (.int .i64 0) (.int .i64 0) (.int .i64 0)
        unfold set6 at k6 q6
        have x0 := q6.cell 0
        have x1 := q6.cell 1
        have x2 := q6.cell 2
        have x3 := q6.cell 3
        have x4 := q6.cell 4
        have x5 := q6.cell 5
        simp only [List.getElem?_toArray, List.getElem?_cons_zero, List.getElem?_cons_succ] at x0 x1 x2 x3 x4 x5
        replace hB := hB.trans ((k6.below (Nat.le_refl _)).mono (Nat.le_refl _))
        clear k6 q6 qT
        generalize ((((((W.setCell ⟨w.heap.size, 0, none⟩ (.int .i64 1)).setCell ⟨w.heap.size, 1, none⟩ (.int .i64 0)).setCell ⟨w.heap.size, 2, none⟩ (.string ⟨#[]⟩)).setCell ⟨w.heap.size, 3, none⟩ (.int .i64 0)).setCell ⟨w.heap.size, 4, none⟩ (.int .i64 0)).setCell ⟨w.heap.size, 5, none⟩ (.int .i64 0)) = w9 at x0 x1 x2 x3 x4 x5 hB ⊢
        refine bodyPost_ret (v := .agg #[.int .i64 1, .int .i64 0, .string ⟨#[]⟩, .int .i64 0, .int .i64 0, .int .i64 0]) (by rw [results_c rfl]; go_simp) rfl ?_
        refine ⟨?_, hB⟩
        rw [HX.out]; rfl
      · skip
        have fz := fun o => qT.frozen o
        have t0 := qT.cell 0
        have t1 := qT.cell 1
        have t2 := qT.cell 2
        have t3 := qT.cell 3
        have t4 := qT.cell 4
        have t5 := qT.cell 5
        simp only [List.getElem?_toArray, List.getElem?_cons_zero, List.getElem?_cons_succ] at t0 t1 t2 t3 t4 t5
        go_wp2
        clear fz t0 t1 t2 t3 t4 t5
        obtain ⟨k6, q6⟩ := qT.set6 (.int .i64 2) (.int .i64 0) (.string ⟨#[]⟩) (.int .i64 0) (.int .i64 121) (.int .i64 i)
        unfold set6 at k6 q6
        have x0 := q6.cell 0
        have x1 := q6.cell 1
        have x2 := q6.cell 2
        have x3 := q6.cell 3
        have x4 := q6.cell 4
        have x5 := q6.cell 5
        simp only [List.getElem?_toArray, List.getElem?_cons_zero, List.getElem?_cons_succ] at x0 x1 x2 x3 x4 x5
        replace hB := hB.trans ((k6.below (Nat.le_refl _)).mono (Nat.le_refl _))
        clear k6 q6 qT
        generalize ((((((W.setCell ⟨w.heap.size, 0, none⟩ (.int .i64 2)).setCell ⟨w.heap.size, 1, none⟩ (.int .i64 0)).setCell ⟨w.heap.size, 2, none⟩ (.string ⟨#[]⟩)).setCell ⟨w.heap.size, 3, none⟩ (.int .i64 0)).setCell ⟨w.heap.size, 4, none⟩ (.int .i64 121)).setCell ⟨w.heap.size, 5, none⟩ (.int .i64 i)) = w9 at x0 x1 x2 x3 x4 x5 hB ⊢
        refine bodyPost_ret (v := .agg #[.int .i64 2, .int .i64 0, .string ⟨#[]⟩, .int .i64 0, .int .i64 121, .int .i64 i]) (by rw [results_c rfl]; go_simp) rfl ?_
        refine ⟨?_, hB⟩
        rw [HX.out]; rfl

end Go.Proofs.YtibeiggedmabkaaDoor
