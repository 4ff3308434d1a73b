/-
  The reference's quoted.
-/
import Derived.Test.YtpfmamimhhnbiaaGreatDoorTR4
import Derived.Test.YtpfmamimhhnbiaaGreatDoorTS4
import Derived.Deep.AppendLies
namespace Go.Proofs.YtpfmamimhhnbiaaGreatDoor
open Go.RowKit
set_option linter.unusedVariables false
set_option linter.unusedSimpArgs false

theorem S_at {s : ByteArray} {S : List UInt8} (hS : s.data.toList = S) {k : Nat} (h1 : k < S.length) (h2 : k < s.size) : S[k] = s[k] := by
  apply UInt8.toNat_inj.1
  rw [← byS_at h1, ← hS, byS_byt h2, byt_of h2]
theorem own_str_any {P : Program} {w : World} {base : Nat} {e src dst : TypeId} {v : Value} {n : Nat} {l : List UInt8} (h : w.ownsRow base e 1 v n (Lib.byteCells l)) (hs : P.underlying src = some (.slice e)) (he : P.underlying e = some (.int .u8)) (hd : P.underlying dst = some .string) :
    (convert src dst v).run P w = .ok (.string ⟨l.toArray⟩) w := by
  by_cases hn : 0 < n
  · exact own_str h hn hs he hd
  · have hl : l.length = n := by have := h.1; rw [Lib.byteCells_length] at this; omega
    have hl0 : l = [] := List.length_eq_zero_iff.1 (by omega)
    subst hl0
    rcases h.2 with ⟨h1, _⟩ | ⟨g, cap, cur, hv, _⟩
    · rw [h1, run_convert_bytes_string w src dst e none 0 0 hs he hd]
      rfl
    · have hn0 : n = 0 := by omega
      subst hn0
      rw [hv]
      exact run_convert_bytes_back w src dst e ⟨g, 0, none⟩ cap [] hs he hd (fun j hj => absurd hj (by simp))
theorem qtP_pair {S : List UInt8} {j : Nat} {l : List UInt8} (h : j < S.length) (h1 : byS S j = 34) (h2 : j + 1 < S.length) (h3 : byS S (j + 1) = 34) : qtP S j l = qtP S (j + 2) (l ++ [34]) := by
  rw [qtP, dif_pos h, if_pos h1, if_pos ⟨h2, h3⟩]
theorem qtP_shut {S : List UInt8} {j : Nat} {l : List UInt8} (h : j < S.length) (h1 : byS S j = 34) (h2 : ¬ (j + 1 < S.length ∧ byS S (j + 1) = 34)) : qtP S j l = .tok 9 (bts l) (j + 1) false := by
  rw [qtP, dif_pos h, if_pos h1, if_neg h2]
theorem qtP_bad {S : List UInt8} {j : Nat} {l : List UInt8} (h : j < S.length) (h1 : byS S j ≠ 34) (h2 : nqN (byS S j) = true) : qtP S j l = .bad j := by
  rw [qtP, dif_pos h, if_neg h1, if_pos h2]
theorem qtP_on {S : List UInt8} {j : Nat} {l : List UInt8} (h : j < S.length) (h1 : byS S j ≠ 34) (h2 : nqN (byS S j) = false) : qtP S j l = qtP S (j + 1) (l ++ [S[j]]) := by
  rw [qtP, dif_pos h, if_neg h1, if_neg (by rw [h2]; decide)]
theorem qtP_end {S : List UInt8} {j : Nat} {l : List UInt8} (h : ¬ j < S.length) : qtP S j l = .half 121 := by rw [qtP, dif_neg h]
set_option maxHeartbeats 4000000 in
set_option maxRecDepth 100000 in
theorem quoted_is (s : ByteArray) (S : List UInt8) (hS : s.data.toList = S) (i : Nat) (fin : Bool) (w : World) (hsz : s.size ≤ 4294967280) (hi : i < s.size) : Calls Tryz.prog 67 #[.string s, .int .i64 i, .bool fin] w fun r w' => r = .returned (seenV s.size i fin (qtP S (i + 1) [])) ∧ Below w.heap.size w w' := by
  have hy := fun k (h : k < s.size) => byS_byt h
  have hsl : s.size = S.length := by rw [← hS, Array.length_toList]; rfl
  rw [hS] at hy
  have HSS := hideT hS
  clear hS
  have HY := hideT hy
  have HL := hideT hsl
  clear hy hsl
  obtain ⟨X, hX⟩ : ∃ X, qtP S (i + 1) [] = X := ⟨_, rfl⟩
  rw [hX]
  have HX := hideT hX
  clear hX
  have hB := below_alloc (w := w) (.cells #[.int .i64 0, .int .i64 0, .string ⟨#[]⟩, .int .i64 0, .int .i64 0, .int .i64 0] 79)
  have qT := Blk.new w #[.int .i64 0, .int .i64 0, .string ⟨#[]⟩, .int .i64 0, .int .i64 0, .int .i64 0] 79
  have eW : (w.alloc (.cells #[.int .i64 0, .int .i64 0, .string ⟨#[]⟩, .int .i64 0, .int .i64 0, .int .i64 0] 79)).heap.size = w.heap.size + 1 := by simp
  go_enter Tryz.func67, Tryz.ntmps67
  go_upto_region 1 with fail
  generalize w.alloc (.cells #[.int .i64 0, .int .i64 0, .string ⟨#[]⟩, .int .i64 0, .int .i64 0, .int .i64 0] 79) = W at hB qT eW ⊢
  go_wp2_with fail
  go_loopw [7, 8] (fun v j wr => ∃ (k : Nat) (l : List UInt8), i < k ∧ k ≤ s.size ∧ l.length ≤ k ∧ j = .int .i64 k ∧ wr.ownsRow (w.heap.size + 1) 5 1 v l.length (Lib.byteCells l) ∧ Blk wr w.heap.size #[.int .i64 0, .int .i64 0, .string ⟨#[]⟩, .int .i64 0, .int .i64 0, .int .i64 0] 79 ∧ Below w.heap.size w wr ∧ w.heap.size + 1 ≤ wr.heap.size ∧ qtP S k l = X) (fun v j wr => s.size - (intOf j).toNat)
  case atStart => exact ⟨i + 1, [], by omega, by omega, by simp, by go_num, World.ownsRow_nil _ _ _ _, qT, hB, by omega, HX.out⟩
  case round =>
    clear qT hB eW HX
    obtain ⟨k, l, hik, hk, hll, rfl, own, qT, hB, hwz, hr⟩ := hrel
    have HR := hideT hr
    clear hr
    obtain ⟨a0, cp, ev⟩ := own_sl own
    subst ev
    by_cases hlt : k < s.size
    · have hki : ((k : Int) < (s.size : Int)) := by omega
      have hb := byt_of hlt
      have hyk := HY.out k hlt
      have hkl : k < S.length := by rw [← HL.out]; exact hlt
      by_cases h34 : byt s k = 34
      · have x34 : (((s[k]'hlt).toNat : Int) == 34) = true := by rw [← hb, h34]; rfl
        have hs34 : byS S k = 34 := by rw [hyk]; exact h34
        by_cases hl1 : k + 1 < s.size
        · have xl1 : ((k : Int) + 1 < (s.size : Int)) := by omega
          have hb1 := byt_of hl1
          have hy1 := HY.out (k + 1) hl1
          have hkl1 : k + 1 < S.length := by rw [← HL.out]; exact hl1
          by_cases h35 : byt s (k + 1) = 34
          · have y34 : (((s[k + 1]'hl1).toNat : Int) == 34) = true := by rw [← hb1, h35]; rfl
            have HN := hideT ((qtP_pair (l := l) hkl hs34 hkl1 (by rw [hy1]; exact h35)).symm.trans HR.out)
            clear HR hb hyk hkl h34 hs34 hb1 hy1 hkl1 h35
            obtain ⟨wx, hwx⟩ : ∃ wx, wr.alloc (.cells #[.int .u8 34] 5) = wx := ⟨_, rfl⟩
            have hnew := heap_alloc_new wr (.cells #[.int .u8 34] 5)
            have b3 := below_alloc (w := wr) (.cells #[.int .u8 34] 5)
            rw [hwx] at hnew b3
            have own2 := own_kp own (Kp.of (X := fun _ => False) b3) (fun _ _ c => c)
            have hk2 : l.length + 1 ≤ maxLen := by simp only [maxLen]; omega
            have hbl2 : (l.length + 1) * 1 ≤ 140737488355328 := by omega
            have hbB : w.heap.size + 1 ≤ wx.heap.size := Nat.le_trans hwz b3.size
            obtain ⟨i0, hi0, hz0, hz1, hz2⟩ := info_parts info_u8
            go_wp2_with (at_builtin; (try rw [hwx]); (refine wpList_append_lies _ (by rfl) _ _ _ (by rfl) (w.heap.size + 1) 5 i0 _ 1 1 Tryz.underlying39 hi0 hz0 hz1 hz2 rfl (by omega) (.slice a0 l.length cp) l.length (Lib.byteCells l) (by rfl) own2 ⟨wr.heap.size, 0, none⟩ 1 1 [.int .u8 34] (by rfl) (by rfl) (World.news_of_block (cs := #[.int .u8 34]) (t := 5) (fr := (0, 0)) hnew) (by simp [Value.oneCell']) (by omega) hk2 hbl2 hbB wx.heap.size rfl ?_))
            intro gb cap wd hown4 hgrow hat hlt4
            have kg := Kp.grown hgrow (fun k e => e)
            have hvb := fun g (hg : _ = some g) => own_lt own2 (g := g) hg
            replace qT := kg.blk (qT.later b3) (fun c => by have := (hvb _ c).1; omega)
            replace hB := (hB.trans (b3.mono hB.size)).trans (kg.below (Nat.le_trans hB.size b3.size) (fun k hk c => by have := (hvb _ c).1; omega))
            have hwz2 : w.heap.size + 1 ≤ wd.heap.size := Nat.le_trans hbB kg.size
            have own3 : wd.ownsRow (w.heap.size + 1) 5 1 (.slice (some ⟨gb, 0, none⟩) (l.length + 1) cap) (l ++ [34]).length (Lib.byteCells (l ++ [34])) := by rw [List.length_append, Lib.byteCells_append]; exact hown4
            clear kg hvb hown4 hgrow hat own2 own hk2 hbl2 hbB hnew b3 hwx hi0 hz0 hz1 hz2
            go_wp2
            go_roundw
            case rel => exact ⟨k + 2, l ++ [34], by omega, by omega, by rw [List.length_append]; simp only [List.length_cons, List.length_nil]; omega, by go_num, own3, qT, hB, hwz2, HN.out⟩
            case measure => simp [intOf]; omega
          · have y34 : (((s[k + 1]'hl1).toNat : Int) == 34) = false := by rw [← hb1, beq_eq_false_iff_ne]; omega
            have HX := hideT (HR.out.symm.trans (qtP_shut (l := l) hkl hs34 (fun c => h35 (by rw [← hy1]; exact c.2))))
            have HEE := hideT (show ¬ k + 1 = s.size by omega)
            have xe : (((k : Int) + 1) == (s.size : Int)) = false := by rw [beq_eq_false_iff_ne]; omega
            clear HR hb hyk hkl h34 hs34 hb1 hy1 hkl1 h35
            have hcs := own_str_any (P := Tryz.prog) own Tryz.underlying39 Tryz.underlying5 Tryz.underlying9
            clear own
            have GU := hideT (fun W => unless_is 9 ⟨l.toArray⟩ (k + 1) false fin W)
            rw [show ((k + 1 : Nat) : Int) = (k : Int) + 1 by omega, if_neg (by simp)] at GU
            unfold whV at GU
            go_wp2_with fail
            refine (GU.out _).mono ?_
            rintro e w1 ⟨rfl, b1⟩
            replace qT := qT.later b1
            replace hB := hB.trans (b1.mono hB.size)
            clear b1
            have fz := fun o => qT.frozen o
            have t0 := qT.cell 0
            have t1 := qT.cell 1
            have t2 := qT.cell 2
            have t3 := qT.cell 3
            have t4 := qT.cell 4
            have t5 := qT.cell 5
            simp only [List.getElem?_toArray, List.getElem?_cons_zero, List.getElem?_cons_succ] at t0 t1 t2 t3 t4 t5
            go_wp2
            clear fz t0 t1 t2 t3 t4 t5
            obtain ⟨k6, q6⟩ := qT.set6 (.int .i64 0) (.int .i64 9) (.string ⟨l.toArray⟩) (.int .i64 ((k : Int) + 1)) (.int .i64 0) (.int .i64 0)
            unfold set6 at k6 q6
            have x0 := q6.cell 0
            have x1 := q6.cell 1
            have x2 := q6.cell 2
            have x3 := q6.cell 3
            have x4 := q6.cell 4
            have x5 := q6.cell 5
            simp only [List.getElem?_toArray, List.getElem?_cons_zero, List.getElem?_cons_succ] at x0 x1 x2 x3 x4 x5
            replace hB := hB.trans ((k6.below (Nat.le_refl _)).mono (Nat.le_refl _))
            clear k6 q6 qT
            generalize ((((((w1.setCell ⟨w.heap.size, 0, none⟩ (.int .i64 0)).setCell ⟨w.heap.size, 1, none⟩ (.int .i64 9)).setCell ⟨w.heap.size, 2, none⟩ (.string ⟨l.toArray⟩)).setCell ⟨w.heap.size, 3, none⟩ (.int .i64 ((k : Int) + 1))).setCell ⟨w.heap.size, 4, none⟩ (.int .i64 0)).setCell ⟨w.heap.size, 5, none⟩ (.int .i64 0)) = w9 at x0 x1 x2 x3 x4 x5 hB ⊢
            refine bodyPost_ret (v := .agg #[.int .i64 0, .int .i64 9, .string ⟨l.toArray⟩, .int .i64 ((k : Int) + 1), .int .i64 0, .int .i64 0]) (by rw [results_c rfl]; go_simp) rfl ?_
            refine ⟨?_, hB⟩
            rw [HX.out, seenV_whole (fun c => HEE.out c.2.1)]; rfl
        · have xl1 : ¬ ((k : Int) + 1 < (s.size : Int)) := by omega
          have HX := hideT (HR.out.symm.trans (qtP_shut (l := l) hkl hs34 (fun c => hl1 (by rw [HL.out]; exact c.1))))
          have HEE := hideT (show k + 1 = s.size by omega)
          have xe : (((k : Int) + 1) == (s.size : Int)) = true := by rw [beq_iff_eq]; omega
          clear HR hb hyk hkl h34 hs34
          have hcs := own_str_any (P := Tryz.prog) own Tryz.underlying39 Tryz.underlying5 Tryz.underlying9
          clear own
          cases fin
          · skip
            have GU := hideT (fun W => unless_is 9 ⟨l.toArray⟩ (k + 1) true false W)
            rw [show ((k + 1 : Nat) : Int) = (k : Int) + 1 by omega, if_pos (by simp)] at GU
            unfold opV at GU
            go_wp2_with fail
            refine (GU.out _).mono ?_
            rintro e w1 ⟨rfl, b1⟩
            replace qT := qT.later b1
            replace hB := hB.trans (b1.mono hB.size)
            clear b1
            have fz := fun o => qT.frozen o
            have t0 := qT.cell 0
            have t1 := qT.cell 1
            have t2 := qT.cell 2
            have t3 := qT.cell 3
            have t4 := qT.cell 4
            have t5 := qT.cell 5
            simp only [List.getElem?_toArray, List.getElem?_cons_zero, List.getElem?_cons_succ] at t0 t1 t2 t3 t4 t5
            go_wp2
            clear fz t0 t1 t2 t3 t4 t5
            obtain ⟨k6, q6⟩ := qT.set6 (.int .i64 1) (.int .i64 0) (.string ⟨#[]⟩) (.int .i64 0) (.int .i64 0) (.int .i64 0)
            unfold set6 at k6 q6
            have x0 := q6.cell 0
            have x1 := q6.cell 1
            have x2 := q6.cell 2
            have x3 := q6.cell 3
            have x4 := q6.cell 4
            have x5 := q6.cell 5
            simp only [List.getElem?_toArray, List.getElem?_cons_zero, List.getElem?_cons_succ] at x0 x1 x2 x3 x4 x5
            replace hB := hB.trans ((k6.below (Nat.le_refl _)).mono (Nat.le_refl _))
            clear k6 q6 qT
            generalize ((((((w1.setCell ⟨w.heap.size, 0, none⟩ (.int .i64 1)).setCell ⟨w.heap.size, 1, none⟩ (.int .i64 0)).setCell ⟨w.heap.size, 2, none⟩ (.string ⟨#[]⟩)).setCell ⟨w.heap.size, 3, none⟩ (.int .i64 0)).setCell ⟨w.heap.size, 4, none⟩ (.int .i64 0)).setCell ⟨w.heap.size, 5, none⟩ (.int .i64 0)) = w9 at x0 x1 x2 x3 x4 x5 hB ⊢
            refine bodyPost_ret (v := .agg #[.int .i64 1, .int .i64 0, .string ⟨#[]⟩, .int .i64 0, .int .i64 0, .int .i64 0]) (by rw [results_c rfl]; go_simp) rfl ?_
            refine ⟨?_, hB⟩
            rw [HX.out, seenV_open HEE.out]; rfl
          · skip
            have GU := hideT (fun W => unless_is 9 ⟨l.toArray⟩ (k + 1) true true W)
            rw [show ((k + 1 : Nat) : Int) = (k : Int) + 1 by omega, if_neg (by simp)] at GU
            unfold whV at GU
            go_wp2_with fail
            refine (GU.out _).mono ?_
            rintro e w1 ⟨rfl, b1⟩
            replace qT := qT.later b1
            replace hB := hB.trans (b1.mono hB.size)
            clear b1
            have fz := fun o => qT.frozen o
            have t0 := qT.cell 0
            have t1 := qT.cell 1
            have t2 := qT.cell 2
            have t3 := qT.cell 3
            have t4 := qT.cell 4
            have t5 := qT.cell 5
            simp only [List.getElem?_toArray, List.getElem?_cons_zero, List.getElem?_cons_succ] at t0 t1 t2 t3 t4 t5
            go_wp2
            clear fz t0 t1 t2 t3 t4 t5
            obtain ⟨k6, q6⟩ := qT.set6 (.int .i64 0) (.int .i64 9) (.string ⟨l.toArray⟩) (.int .i64 ((k : Int) + 1)) (.int .i64 0) (.int .i64 0)
            unfold set6 at k6 q6
            have x0 := q6.cell 0
            have x1 := q6.cell 1
            have x2 := q6.cell 2
            have x3 := q6.cell 3
            have x4 := q6.cell 4
            have x5 := q6.cell 5
            simp only [List.getElem?_toArray, List.getElem?_cons_zero, List.getElem?_cons_succ] at x0 x1 x2 x3 x4 x5
            replace hB := hB.trans ((k6.below (Nat.le_refl _)).mono (Nat.le_refl _))
            clear k6 q6 qT
            generalize ((((((w1.setCell ⟨w.heap.size, 0, none⟩ (.int .i64 0)).setCell ⟨w.heap.size, 1, none⟩ (.int .i64 9)).setCell ⟨w.heap.size, 2, none⟩ (.string ⟨l.toArray⟩)).setCell ⟨w.heap.size, 3, none⟩ (.int .i64 ((k : Int) + 1))).setCell ⟨w.heap.size, 4, none⟩ (.int .i64 0)).setCell ⟨w.heap.size, 5, none⟩ (.int .i64 0)) = w9 at x0 x1 x2 x3 x4 x5 hB ⊢
            refine bodyPost_ret (v := .agg #[.int .i64 0, .int .i64 9, .string ⟨l.toArray⟩, .int .i64 ((k : Int) + 1), .int .i64 0, .int .i64 0]) (by rw [results_c rfl]; go_simp) rfl ?_
            refine ⟨?_, hB⟩
            rw [HX.out, seenV_whole (by simp)]; rfl
      · have x34 : (((s[k]'hlt).toNat : Int) == 34) = false := by rw [← hb, beq_eq_false_iff_ne]; omega
        have hs34 : byS S k ≠ 34 := by rw [hyk]; exact h34
        have GQ := hideT (fun W => quotable_is (byt s k) W)
        rw [quN_not] at GQ
        rcases hf : nqN (byt s k) with _ | _
        · rw [hf, hb] at GQ
          have hnx := (qtP_on (l := l) hkl hs34 (by rw [hyk]; exact hf)).symm.trans HR.out
          rw [S_at HSS.out hkl hlt] at hnx
          have HN := hideT hnx
          clear hnx HR hb hyk hkl h34 hs34 hf
          go_wp2_with fail
          refine (GQ.out _).mono ?_
          rintro e w1 ⟨rfl, hw1⟩
          rw [hw1]
          clear hw1
          obtain ⟨wx, hwx⟩ : ∃ wx, wr.alloc (.cells #[.int .u8 (s[k]'hlt).toNat] 5) = wx := ⟨_, rfl⟩
          have hnew := heap_alloc_new wr (.cells #[.int .u8 (s[k]'hlt).toNat] 5)
          have b3 := below_alloc (w := wr) (.cells #[.int .u8 (s[k]'hlt).toNat] 5)
          rw [hwx] at hnew b3
          have own2 := own_kp own (Kp.of (X := fun _ => False) b3) (fun _ _ c => c)
          have hk2 : l.length + 1 ≤ maxLen := by simp only [maxLen]; omega
          have hbl2 : (l.length + 1) * 1 ≤ 140737488355328 := by omega
          have hbB : w.heap.size + 1 ≤ wx.heap.size := Nat.le_trans hwz b3.size
          obtain ⟨i0, hi0, hz0, hz1, hz2⟩ := info_parts info_u8
          go_wp2_with (at_builtin; (try rw [hwx]); (refine wpList_append_lies _ (by rfl) _ _ _ (by rfl) (w.heap.size + 1) 5 i0 _ 1 1 Tryz.underlying39 hi0 hz0 hz1 hz2 rfl (by omega) (.slice a0 l.length cp) l.length (Lib.byteCells l) (by rfl) own2 ⟨wr.heap.size, 0, none⟩ 1 1 [.int .u8 (s[k]'hlt).toNat] (by rfl) (by rfl) (World.news_of_block (cs := #[.int .u8 (s[k]'hlt).toNat]) (t := 5) (fr := (0, 0)) hnew) (by simp [Value.oneCell']) (by omega) hk2 hbl2 hbB wx.heap.size rfl ?_))
          intro gb cap wd hown4 hgrow hat hlt4
          have kg := Kp.grown hgrow (fun k e => e)
          have hvb := fun g (hg : _ = some g) => own_lt own2 (g := g) hg
          replace qT := kg.blk (qT.later b3) (fun c => by have := (hvb _ c).1; omega)
          replace hB := (hB.trans (b3.mono hB.size)).trans (kg.below (Nat.le_trans hB.size b3.size) (fun k hk c => by have := (hvb _ c).1; omega))
          have hwz2 : w.heap.size + 1 ≤ wd.heap.size := Nat.le_trans hbB kg.size
          have own3 : wd.ownsRow (w.heap.size + 1) 5 1 (.slice (some ⟨gb, 0, none⟩) (l.length + 1) cap) (l ++ [s[k]'hlt]).length (Lib.byteCells (l ++ [s[k]'hlt])) := by rw [List.length_append, Lib.byteCells_append]; exact hown4
          clear kg hvb hown4 hgrow hat own2 own hk2 hbl2 hbB hnew b3 hwx hi0 hz0 hz1 hz2
          go_wp2
          go_roundw
          case rel => exact ⟨k + 1, l ++ [s[k]'hlt], by omega, by omega, by rw [List.length_append]; simp only [List.length_cons, List.length_nil]; omega, by go_num, own3, qT, hB, hwz2, HN.out⟩
          case measure => simp [intOf]; omega
        · rw [hf, hb] at GQ
          have HX := hideT (HR.out.symm.trans (qtP_bad (l := l) hkl hs34 (by rw [hyk]; exact hf)))
          clear HR hb hyk hkl h34 hs34 hf
          go_wp2_with fail
          refine (GQ.out _).mono ?_
          rintro e w1 ⟨rfl, rfl⟩
          have GBD := hideT (fun W => bad_is k W)
          unfold wrV at GBD
          go_wp2_with fail
          refine (GBD.out _).mono ?_
          rintro e w1 ⟨rfl, b1⟩
          replace qT := qT.later b1
          replace hB := hB.trans (b1.mono hB.size)
          clear b1
          have fz := fun o => qT.frozen o
          have t0 := qT.cell 0
          have t1 := qT.cell 1
          have t2 := qT.cell 2
          have t3 := qT.cell 3
          have t4 := qT.cell 4
          have t5 := qT.cell 5
          simp only [List.getElem?_toArray, List.getElem?_cons_zero, List.getElem?_cons_succ] at t0 t1 t2 t3 t4 t5
          go_wp2
          clear fz t0 t1 t2 t3 t4 t5
          obtain ⟨k6, q6⟩ := qT.set6 (.int .i64 2) (.int .i64 0) (.string ⟨#[]⟩) (.int .i64 0) (.int .i64 120) (.int .i64 k)
          unfold set6 at k6 q6
          have x0 := q6.cell 0
          have x1 := q6.cell 1
          have x2 := q6.cell 2
          have x3 := q6.cell 3
          have x4 := q6.cell 4
          have x5 := q6.cell 5
          simp only [List.getElem?_toArray, List.getElem?_cons_zero, List.getElem?_cons_succ] at x0 x1 x2 x3 x4 x5
          replace hB := hB.trans ((k6.below (Nat.le_refl _)).mono (Nat.le_refl _))
          clear k6 q6 qT
          generalize ((((((w1.setCell ⟨w.heap.size, 0, none⟩ (.int .i64 2)).setCell ⟨w.heap.size, 1, none⟩ (.int .i64 0)).setCell ⟨w.heap.size, 2, none⟩ (.string ⟨#[]⟩)).setCell ⟨w.heap.size, 3, none⟩ (.int .i64 0)).setCell ⟨w.heap.size, 4, none⟩ (.int .i64 120)).setCell ⟨w.heap.size, 5, none⟩ (.int .i64 k)) = w9 at x0 x1 x2 x3 x4 x5 hB ⊢
          refine bodyPost_ret (v := .agg #[.int .i64 2, .int .i64 0, .string ⟨#[]⟩, .int .i64 0, .int .i64 120, .int .i64 k]) (by rw [results_c rfl]; go_simp) rfl ?_
          refine ⟨?_, hB⟩
          rw [HX.out]; rfl
    · have hki : ¬ ((k : Int) < (s.size : Int)) := by omega
      have HX := hideT (HR.out.symm.trans (qtP_end (l := l) (by rw [← HL.out]; exact hlt)))
      clear HR own
      cases fin
      · skip
        have fz := fun o => qT.frozen o
        have t0 := qT.cell 0
        have t1 := qT.cell 1
        have t2 := qT.cell 2
        have t3 := qT.cell 3
        have t4 := qT.cell 4
        have t5 := qT.cell 5
        simp only [List.getElem?_toArray, List.getElem?_cons_zero, List.getElem?_cons_succ] at t0 t1 t2 t3 t4 t5
        go_wp2
        clear fz t0 t1 t2 t3 t4 t5
        obtain ⟨k6, q6⟩ := qT.set6 (.int .i64 1) (.int .i64 0) (.string ⟨#[]⟩) (.int .i64 0) (.int .i64 0) (.int .i64 0)
        unfold set6 at k6 q6
        have x0 := q6.cell 0
        have x1 := q6.cell 1
        have x2 := q6.cell 2
        have x3 := q6.cell 3
        have x4 := q6.cell 4
        have x5 := q6.cell 5
        simp only [List.getElem?_toArray, List.getElem?_cons_zero, List.getElem?_cons_succ] at x0 x1 x2 x3 x4 x5
        replace hB := hB.trans ((k6.below (Nat.le_refl _)).mono (Nat.le_refl _))
        clear k6 q6 qT
        generalize ((((((wr.setCell ⟨w.heap.size, 0, none⟩ (.int .i64 1)).setCell ⟨w.heap.size, 1, none⟩ (.int .i64 0)).setCell ⟨w.heap.size, 2, none⟩ (.string ⟨#[]⟩)).setCell ⟨w.heap.size, 3, none⟩ (.int .i64 0)).setCell ⟨w.heap.size, 4, none⟩ (.int .i64 0)).setCell ⟨w.heap.size, 5, none⟩ (.int .i64 0)) = w9 at x0 x1 x2 x3 x4 x5 hB ⊢
        refine bodyPost_ret (v := .agg #[.int .i64 1, .int .i64 0, .string ⟨#[]⟩, .int .i64 0, .int .i64 0, .int .i64 0]) (by rw [results_c rfl]; go_simp) rfl ?_
        refine ⟨?_, hB⟩
        rw [HX.out]; rfl
      · skip
        have fz := fun o => qT.frozen o
        have t0 := qT.cell 0
        have t1 := qT.cell 1
        have t2 := qT.cell 2
        have t3 := qT.cell 3
        have t4 := qT.cell 4
        have t5 := qT.cell 5
        simp only [List.getElem?_toArray, List.getElem?_cons_zero, List.getElem?_cons_succ] at t0 t1 t2 t3 t4 t5
        go_wp2
        clear fz t0 t1 t2 t3 t4 t5
        obtain ⟨k6, q6⟩ := qT.set6 (.int .i64 2) (.int .i64 0) (.string ⟨#[]⟩) (.int .i64 0) (.int .i64 121) (.int .i64 i)
        unfold set6 at k6 q6
        have x0 := q6.cell 0
        have x1 := q6.cell 1
        have x2 := q6.cell 2
        have x3 := q6.cell 3
        have x4 := q6.cell 4
        have x5 := q6.cell 5
        simp only [List.getElem?_toArray, List.getElem?_cons_zero, List.getElem?_cons_succ] at x0 x1 x2 x3 x4 x5
        replace hB := hB.trans ((k6.below (Nat.le_refl _)).mono (Nat.le_refl _))
        clear k6 q6 qT
        generalize ((((((wr.setCell ⟨w.heap.size, 0, none⟩ (.int .i64 2)).setCell ⟨w.heap.size, 1, none⟩ (.int .i64 0)).setCell ⟨w.heap.size, 2, none⟩ (.string ⟨#[]⟩)).setCell ⟨w.heap.size, 3, none⟩ (.int .i64 0)).setCell ⟨w.heap.size, 4, none⟩ (.int .i64 121)).setCell ⟨w.heap.size, 5, none⟩ (.int .i64 i)) = w9 at x0 x1 x2 x3 x4 x5 hB ⊢
        refine bodyPost_ret (v := .agg #[.int .i64 2, .int .i64 0, .string ⟨#[]⟩, .int .i64 0, .int .i64 121, .int .i64 i]) (by rw [results_c rfl]; go_simp) rfl ?_
        refine ⟨?_, hB⟩
        rw [HX.out]; rfl

end Go.Proofs.YtpfmamimhhnbiaaGreatDoor
