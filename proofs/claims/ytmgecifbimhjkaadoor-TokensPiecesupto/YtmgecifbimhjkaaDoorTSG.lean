/-
  The reference's Place: lines and columns.
-/
import Derived.Test.YtmgecifbimhjkaaDoorTSF
namespace Go.Proofs.YtmgecifbimhjkaaDoor
open Go.RowKit
set_option linter.unusedVariables false
set_option linter.unusedSimpArgs false
set_option maxHeartbeats 2000000 in
set_option maxRecDepth 100000 in
theorem place_is (s : ByteArray) (S : List UInt8) (hS : s.data.toList = S) (n : Nat) (w : World) (hsz : s.size ≤ 4294967280) (hn : n ≤ s.size) : Calls Tryd.prog 18 #[.string s, .int .i64 n] w fun e w' => e = .returned (.agg #[.int .i64 0, .string ⟨#[]⟩, .int .i64 n, .int .i64 n, .int .i64 ((nlN S n : Int) + 1), .int .i64 (((n - ahN S n : Nat) : Int) + 1)]) ∧ Below w.heap.size w w' := by
  have hy := fun k (h : k < s.size) => byS_byt h
  rw [hS] at hy
  have HY := hideT hy
  clear hy hS
  have hB : Below w.heap.size w (w.alloc (.cells #[.int .i64 0, .string ⟨#[]⟩, .int .i64 0, .int .i64 0, .int .i64 0, .int .i64 0] 23)) := below_alloc _
  have qT := Blk.new w #[.int .i64 0, .string ⟨#[]⟩, .int .i64 0, .int .i64 0, .int .i64 0, .int .i64 0] 23
  go_enter Tryd.func18, Tryd.ntmps18
  go_wp2_with fail
  have eW : (w.alloc (.cells #[.int .i64 0, .string ⟨#[]⟩, .int .i64 0, .int .i64 0, .int .i64 0, .int .i64 0] 23)).heap.size = w.heap.size + 1 := by simp
  generalize w.alloc (.cells #[.int .i64 0, .string ⟨#[]⟩, .int .i64 0, .int .i64 0, .int .i64 0, .int .i64 0] 23) = W at hB qT eW ⊢
  have b2 := below_alloc (w := W) (.cells #[.int .i64 0, .string ⟨#[]⟩, .int .i64 n, .int .i64 n, .int .i64 1, .int .i64 1] 23)
  have q2 := Blk.new W #[.int .i64 0, .string ⟨#[]⟩, .int .i64 n, .int .i64 n, .int .i64 1, .int .i64 1] 23
  have e2 : (W.alloc (.cells #[.int .i64 0, .string ⟨#[]⟩, .int .i64 n, .int .i64 n, .int .i64 1, .int .i64 1] 23)).heap.size = w.heap.size + 2 := by simp [eW]
  rw [eW] at q2
  replace qT := qT.later b2
  replace hB := hB.trans (b2.mono hB.size)
  clear b2
  generalize W.alloc (.cells #[.int .i64 0, .string ⟨#[]⟩, .int .i64 n, .int .i64 n, .int .i64 1, .int .i64 1] 23) = W2 at hB qT q2 e2 ⊢
  go_loopw [6] (fun i wr => ∃ k : Nat, k ≤ n ∧ i = .int .i64 k ∧ Blk wr w.heap.size #[.int .i64 0, .string ⟨#[]⟩, .int .i64 0, .int .i64 0, .int .i64 0, .int .i64 0] 23 ∧ Blk wr (w.heap.size + 1) #[.int .i64 0, .string ⟨#[]⟩, .int .i64 n, .int .i64 n, .int .i64 ((nlN S k : Int) + 1), .int .i64 (((k - ahN S k : Nat) : Int) + 1)] 23 ∧ Below w.heap.size w wr) (fun i _ => n - (intOf i).toNat)
  case atStart => exact ⟨0, Nat.zero_le _, rfl, qT, q2, hB⟩
  case round =>
    clear qT q2 hB eW e2
    obtain ⟨k, hk, rfl, qT, q2, hB⟩ := hrel
    have hal := ahN_le S k
    have hnl := nlN_le S k
    by_cases hlt : k < n
    · have hki : ((k : Int) < (n : Int)) := by omega
      have hls : k < s.size := by omega
      have hb := byt_of hls
      have hyk := HY.out k hls
      have fz := fun o => q2.frozen o
      have z0 := q2.cell 0
      have z1 := q2.cell 1
      have z2 := q2.cell 2
      have z3 := q2.cell 3
      have z4 := q2.cell 4
      have z5 := q2.cell 5
      simp only [List.getElem?_toArray, List.getElem?_cons_zero, List.getElem?_cons_succ] at z0 z1 z2 z3 z4 z5
      by_cases h10 : byt s k = 10
      · have y10 : (((s[k]'hls).toNat : Int) == 10) = true := by rw [← hb, h10]; rfl
        go_wp2
        go_roundw
        case rel =>
          have e1 : nlN S (k + 1) = nlN S k + 1 := by simp only [nlN]; rw [hyk, if_pos h10]
          have e2 : ahN S (k + 1) = k + 1 := by simp only [ahN]; rw [hyk, if_pos h10]
          have v1 : ((nlN S k + 1 : Nat) : Int) + 1 = (nlN S k : Int) + 1 + 1 := by omega
          have v2 : ((k + 1 - (k + 1) : Nat) : Int) + 1 = 1 := by omega
          obtain ⟨c1, d1⟩ := q2.set (o := 5) (.int .i64 (((k - ahN S k : Nat) : Int) + 1 + 1))
          obtain ⟨c2, d2⟩ := d1.set (o := 4) (.int .i64 ((nlN S k : Int) + 1 + 1))
          obtain ⟨c3, d3⟩ := d2.set (o := 5) (.int .i64 1)
          have c := (c1.trans c2).trans c3
          refine ⟨k + 1, by omega, by go_num, qT.ch c (by omega), ?_, hB.trans (c.below (by omega))⟩
          rw [e1, e2, v1, v2]
          exact d3
        case measure => simp [intOf]; omega
      · have y10 : (((s[k]'hls).toNat : Int) == 10) = false := by rw [← hb, beq_eq_false_iff_ne]; omega
        go_wp2
        go_roundw
        case rel =>
          have e1 : nlN S (k + 1) = nlN S k := by simp only [nlN]; rw [hyk, if_neg h10]
          have e2 : ahN S (k + 1) = ahN S k := by simp only [ahN]; rw [hyk, if_neg h10]
          have v2 : ((k + 1 - ahN S k : Nat) : Int) + 1 = ((k - ahN S k : Nat) : Int) + 1 + 1 := by omega
          obtain ⟨c1, d1⟩ := q2.set (o := 5) (.int .i64 (((k - ahN S k : Nat) : Int) + 1 + 1))
          refine ⟨k + 1, by omega, by go_num, qT.ch c1 (by omega), ?_, hB.trans (c1.below (by omega))⟩
          rw [e1, e2, v2]
          exact d1
        case measure => simp [intOf]; omega
    · have hki : ¬ ((k : Int) < (n : Int)) := by omega
      have ek : k = n := by omega
      subst ek
      have fz := fun o => qT.frozen o
      have t0 := qT.cell 0
      have z0 := q2.cell 0
      have t1 := qT.cell 1
      have z1 := q2.cell 1
      have t2 := qT.cell 2
      have z2 := q2.cell 2
      have t3 := qT.cell 3
      have z3 := q2.cell 3
      have t4 := qT.cell 4
      have z4 := q2.cell 4
      have t5 := qT.cell 5
      have z5 := q2.cell 5
      simp only [List.getElem?_toArray, List.getElem?_cons_zero, List.getElem?_cons_succ] at t0 z0 t1 z1 t2 z2 t3 z3 t4 z4 t5 z5
      go_wp2
      clear t0 z0 t1 z1 t2 z2 t3 z3 t4 z4 t5 z5 fz
      obtain ⟨k6, q6⟩ := qT.set6 (.int .i64 0) (.string ⟨#[]⟩) (.int .i64 k) (.int .i64 k) (.int .i64 ((nlN S k : Int) + 1)) (.int .i64 (((k - ahN S k : Nat) : Int) + 1))
      unfold set6 at k6 q6
      have x0 := q6.cell 0
      have x1 := q6.cell 1
      have x2 := q6.cell 2
      have x3 := q6.cell 3
      have x4 := q6.cell 4
      have x5 := q6.cell 5
      simp only [List.getElem?_toArray, List.getElem?_cons_zero, List.getElem?_cons_succ] at x0 x1 x2 x3 x4 x5
      replace hB := hB.trans ((k6.below (Nat.le_refl _)).mono (Nat.le_refl _))
      clear k6 q6 qT
      generalize ((((((wr.setCell ⟨w.heap.size, 0, none⟩ (.int .i64 0)).setCell ⟨w.heap.size, 1, none⟩ (.string ⟨#[]⟩)).setCell ⟨w.heap.size, 2, none⟩ (.int .i64 k)).setCell ⟨w.heap.size, 3, none⟩ (.int .i64 k)).setCell ⟨w.heap.size, 4, none⟩ (.int .i64 ((nlN S k : Int) + 1))).setCell ⟨w.heap.size, 5, none⟩ (.int .i64 (((k - ahN S k : Nat) : Int) + 1))) = w9 at x0 x1 x2 x3 x4 x5 hB ⊢
      refine bodyPost_ret (v := .agg #[.int .i64 0, .string ⟨#[]⟩, .int .i64 k, .int .i64 k, .int .i64 ((nlN S k : Int) + 1), .int .i64 (((k - ahN S k : Nat) : Int) + 1)]) (by rw [results_c rfl]; go_simp) rfl ?_
      exact ⟨rfl, hB⟩
end Go.Proofs.YtmgecifbimhjkaaDoor
