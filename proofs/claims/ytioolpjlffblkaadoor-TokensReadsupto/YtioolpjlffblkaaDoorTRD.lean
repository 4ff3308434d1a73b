/-
  The reference's All; TokensReads: the walk.
-/
import Derived.Test.YtioolpjlffblkaaDoorTRC
import Derived.Test.YtioolpjlffblkaaDoorTSB
import Derived.Test.YtioolpjlffblkaaDoorTSG
namespace Go.Proofs.YtioolpjlffblkaaDoor
open Go.RowKit
set_option linter.unusedVariables false
set_option linter.unusedSimpArgs false
theorem charP_ts2 (p : PS) (r : Nat) (us : List UInt8) : (charP p r us).1.length ≤ 2 := by
  have := told_len p r
  unfold charP
  repeat' split
  all_goals simp only [List.length_append, List.length_cons, List.length_nil]
  all_goals omega
theorem feed_len2 (p : PS) (bs : List UInt8) : (feedP p bs).1.length ≤ bs.length * 2 := by
  induction bs generalizing p with
  | nil => simp [feedP]
  | cons u us ih =>
    have h1 := charP_ts2 p u.toNat [u]
    simp only [feedP]
    rcases hc : charP p u.toNat [u] with ⟨t1, o1⟩
    rw [hc] at h1
    cases o1 with
    | bad B L C => simp only [List.length_cons] at h1 ⊢; omega
    | ok q =>
      have := ih q
      simp only [List.length_append, List.length_cons] at h1 ⊢
      omega
theorem allP_len (S : List UInt8) : (allP S).1.length ≤ S.length * 2 + 1 := by
  have h := feed_len2 pI S
  unfold allP
  rcases hf : feedP pI S with ⟨ts, o⟩
  rw [hf] at h
  cases o with
  | bad B L C => simp only at h ⊢; omega
  | ok q => simp only at h ⊢; rw [List.length_append]; have := end_len q; omega
set_option maxHeartbeats 4000000 in
set_option maxRecDepth 100000 in
theorem rAll_is (s : ByteArray) (S : List UInt8) (hS : s.data.toList = S) (w : World) (hsz : s.size ≤ 4294967280) : Calls Tryd.prog 5 #[.string s] w fun r w' => ∃ (v : Value) (z2 z3 z4 z5 : Int), r = .returned (.tuple #[v, .int .i64 (allP S).2, .agg #[.int .i64 0, .string ⟨#[]⟩, .int .i64 z2, .int .i64 z3, .int .i64 z4, .int .i64 z5]]) ∧ w'.ownsRow w.heap.size 25 6 v (allP S).1.length (tokCells (allP S).1) ∧ Below w.heap.size w w' ∧ ((allP S).2 ≠ 0 → z2 = (allE S).1 ∧ z3 = (allE S).1 ∧ z4 = (allE S).2.1 ∧ z5 = (allE S).2.2) ∧ ((allP S).2 = 0 → z2 = 0 ∧ z3 = 0 ∧ z4 = 0 ∧ z5 = 0) := by
  have hsl : s.size = S.length := by rw [← hS, Array.length_toList]; rfl
  obtain ⟨r1, r2, r3⟩ := rdF_zero S
  have GR := hideT (fun W => read_is s S hS true W hsz)
  rw [r1, r2] at GR
  obtain ⟨L, hL⟩ : ∃ L, (allP S).1 = L := ⟨_, rfl⟩
  obtain ⟨er, her⟩ : ∃ er, (allP S).2 = er := ⟨_, rfl⟩
  rw [hL, her] at GR
  rw [her] at r3
  rw [hL, her]
  obtain ⟨pl, hpl⟩ : ∃ pl, (rdF true S 0).2.2 = pl := ⟨_, rfl⟩
  rw [hpl] at GR r3
  have H3 := hideT r3
  have HS := hideT hS
  have HSL := hideT hsl
  clear hL her hpl r1 r2 r3 hS hsl
  have hB := below_alloc (w := w) (.cells #[.int .i64 0, .string ⟨#[]⟩, .int .i64 0, .int .i64 0, .int .i64 0, .int .i64 0] 25)
  have qT := Blk.new w #[.int .i64 0, .string ⟨#[]⟩, .int .i64 0, .int .i64 0, .int .i64 0, .int .i64 0] 25
  have eW : (w.alloc (.cells #[.int .i64 0, .string ⟨#[]⟩, .int .i64 0, .int .i64 0, .int .i64 0, .int .i64 0] 25)).heap.size = w.heap.size + 1 := by simp
  go_enter Tryd.func5, Tryd.ntmps5
  go_upto_region 1 with fail
  generalize w.alloc (.cells #[.int .i64 0, .string ⟨#[]⟩, .int .i64 0, .int .i64 0, .int .i64 0, .int .i64 0] 25) = W at hB qT eW ⊢
  go_wp2_with fail
  refine (GR.out _).mono ?_
  rintro e w1 ⟨v, rfl, own, b1, hnl⟩
  replace qT := qT.later b1
  replace hB := hB.trans (b1.mono hB.size)
  clear b1 GR hnl
  by_cases h0 : er = 0
  · subst h0
    have fz := fun o => qT.frozen o
    have t0 := qT.cell 0
    have t1 := qT.cell 1
    have t2 := qT.cell 2
    have t3 := qT.cell 3
    have t4 := qT.cell 4
    have t5 := qT.cell 5
    simp only [List.getElem?_toArray, List.getElem?_cons_zero, List.getElem?_cons_succ] at t0 t1 t2 t3 t4 t5
    go_wp2
    clear fz t0 t1 t2 t3 t4 t5
    obtain ⟨k6, q6⟩ := qT.set6 (.int .i64 0) (.string ⟨#[]⟩) (.int .i64 0) (.int .i64 0) (.int .i64 0) (.int .i64 0)
    unfold set6 at k6 q6
    have x0 := q6.cell 0
    have x1 := q6.cell 1
    have x2 := q6.cell 2
    have x3 := q6.cell 3
    have x4 := q6.cell 4
    have x5 := q6.cell 5
    simp only [List.getElem?_toArray, List.getElem?_cons_zero, List.getElem?_cons_succ] at x0 x1 x2 x3 x4 x5
    have kb := Kp.ch (X := fun i => i = w.heap.size) k6 rfl
    replace hB := hB.trans ((k6.below (Nat.le_refl _)).mono (Nat.le_refl _))
    replace own := own_kp own kb (fun g hg e => by have := (own_lt own hg).1; omega)
    clear k6 q6 qT kb
    generalize ((((((w1.setCell ⟨w.heap.size, 0, none⟩ (.int .i64 0)).setCell ⟨w.heap.size, 1, none⟩ (.string ⟨#[]⟩)).setCell ⟨w.heap.size, 2, none⟩ (.int .i64 0)).setCell ⟨w.heap.size, 3, none⟩ (.int .i64 0)).setCell ⟨w.heap.size, 4, none⟩ (.int .i64 0)).setCell ⟨w.heap.size, 5, none⟩ (.int .i64 0)) = w9 at x0 x1 x2 x3 x4 x5 hB own ⊢
    refine bodyPost_ret (v := .tuple #[v, .int .i64 0, .agg #[.int .i64 0, .string ⟨#[]⟩, .int .i64 0, .int .i64 0, .int .i64 0, .int .i64 0]]) (by rw [results_ttc rfl]; go_simp) rfl ?_
    exact ⟨_, _, _, _, _, rfl, own_mono own (by omega), hB, rfl, rfl, rfl, rfl⟩
  · have x0 : (er != 0) = true := by rw [bne_iff_ne]; exact h0
    obtain ⟨b, hb, e1, e2⟩ := H3.out h0
    subst e1
    have GP := hideT (fun W => place_is s S HS.out b W hsz (by rw [HSL.out]; omega))
    have HEE := hideT e2
    have H0 := hideT h0
    clear e2 h0
    go_wp2_with fail
    refine (GP.out _).mono ?_
    rintro e w2 ⟨rfl, b2⟩
    replace qT := qT.later b2
    replace hB := hB.trans (b2.mono hB.size)
    replace own := own_kp own (Kp.of (X := fun _ => False) b2) (fun _ _ c => c)
    clear b2 GP
    have fz := fun o => qT.frozen o
    have t0 := qT.cell 0
    have t1 := qT.cell 1
    have t2 := qT.cell 2
    have t3 := qT.cell 3
    have t4 := qT.cell 4
    have t5 := qT.cell 5
    simp only [List.getElem?_toArray, List.getElem?_cons_zero, List.getElem?_cons_succ] at t0 t1 t2 t3 t4 t5
    go_wp2
    clear fz t0 t1 t2 t3 t4 t5
    obtain ⟨k6, q6⟩ := qT.set6 (.int .i64 0) (.string ⟨#[]⟩) (.int .i64 (b : Nat)) (.int .i64 (b : Nat)) (.int .i64 ((nlN S b : Int) + 1)) (.int .i64 (((b - ahN S b : Nat) : Int) + 1))
    unfold set6 at k6 q6
    have x0 := q6.cell 0
    have x1 := q6.cell 1
    have x2 := q6.cell 2
    have x3 := q6.cell 3
    have x4 := q6.cell 4
    have x5 := q6.cell 5
    simp only [List.getElem?_toArray, List.getElem?_cons_zero, List.getElem?_cons_succ] at x0 x1 x2 x3 x4 x5
    have kb := Kp.ch (X := fun i => i = w.heap.size) k6 rfl
    replace hB := hB.trans ((k6.below (Nat.le_refl _)).mono (Nat.le_refl _))
    replace own := own_kp own kb (fun g hg e => by have := (own_lt own hg).1; omega)
    clear k6 q6 qT kb
    generalize ((((((w2.setCell ⟨w.heap.size, 0, none⟩ (.int .i64 0)).setCell ⟨w.heap.size, 1, none⟩ (.string ⟨#[]⟩)).setCell ⟨w.heap.size, 2, none⟩ (.int .i64 (b : Nat))).setCell ⟨w.heap.size, 3, none⟩ (.int .i64 (b : Nat))).setCell ⟨w.heap.size, 4, none⟩ (.int .i64 ((nlN S b : Int) + 1))).setCell ⟨w.heap.size, 5, none⟩ (.int .i64 (((b - ahN S b : Nat) : Int) + 1))) = w9 at x0 x1 x2 x3 x4 x5 hB own ⊢
    refine bodyPost_ret (v := .tuple #[v, .int .i64 er, .agg #[.int .i64 0, .string ⟨#[]⟩, .int .i64 (b : Nat), .int .i64 (b : Nat), .int .i64 ((nlN S b : Int) + 1), .int .i64 (((b - ahN S b : Nat) : Int) + 1)]]) (by rw [results_ttc rfl]; go_simp) rfl ?_
    exact ⟨_, _, _, _, _, rfl, own_mono own (by omega), hB, fun _ => by rw [HEE.out]; exact ⟨rfl, rfl, rfl, rfl⟩, fun c => absurd c H0.out⟩

set_option maxHeartbeats 4000000 in
set_option maxRecDepth 100000 in
theorem reads_walk (s : ByteArray) (w : World) (hsz : s.size ≤ 4294967280) (hM : MaxL w) (hmx : mxB < w.heap.size) : Calls Tryd.prog 3 #[.string s] w fun e w' => e = .returned (.bool true) ∧ Below w.heap.size w w' := by
  obtain ⟨S, hS⟩ : ∃ S, s.data.toList = S := ⟨_, rfl⟩
  have hsl : S.length = s.size := by rw [← hS, Array.length_toList]; rfl
  have GA := hideT (all_at s w hsz hM hmx)
  rw [hS] at GA
  have GB := hideT (fun W => rAll_is s S hS W hsz)
  have hLl := allP_len S
  obtain ⟨er, her⟩ : ∃ er, (allP S).2 = er := ⟨_, rfl⟩
  obtain ⟨aE, haE⟩ : ∃ aE, allE S = aE := ⟨_, rfl⟩
  rw [her, haE] at GA GB
  generalize (allP S).1 = L at GA GB hLl
  clear her haE hS
  go_enter Tryd.func3, Tryd.ntmps3
  go_wp2_with fail
  refine GA.out.mono ?_
  rintro e w1 ⟨v1, z2, z3, z4, z5, rfl, own1, b1, _, hz, hz0⟩
  clear GA
  have b2 := below_alloc (w := w1) (.cells #[.int .i64 0, .string ⟨#[]⟩, .int .i64 z2, .int .i64 z3, .int .i64 z4, .int .i64 z5] 25)
  have q5 := Blk.new w1 #[.int .i64 0, .string ⟨#[]⟩, .int .i64 z2, .int .i64 z3, .int .i64 z4, .int .i64 z5] 25
  have hB := b1.trans (b2.mono b1.size)
  replace own1 := own_kp own1 (Kp.of (X := fun _ => False) b2) (fun _ _ c => c)
  clear b1 b2
  have HZ := hideT hz
  have HZ0 := hideT hz0
  clear hz hz0
  go_wp2_with fail
  refine (GB.out _).mono ?_
  rintro e w2 ⟨v2, y2, y3, y4, y5, rfl, own2, b3, hy, hy0⟩
  clear GB
  have hq : y2 = z2 ∧ y3 = z3 ∧ y4 = z4 ∧ y5 = z5 := by
    by_cases h0 : er = 0
    · obtain ⟨a1, a2, a3, a4⟩ := HZ0.out h0
      obtain ⟨c1, c2, c3, c4⟩ := hy0 h0
      exact ⟨by rw [a1, c1], by rw [a2, c2], by rw [a3, c3], by rw [a4, c4]⟩
    · obtain ⟨a1, a2, a3, a4⟩ := HZ.out h0
      obtain ⟨c1, c2, c3, c4⟩ := hy h0
      exact ⟨by rw [a1, c1], by rw [a2, c2], by rw [a3, c3], by rw [a4, c4]⟩
  obtain ⟨rfl, rfl, rfl, rfl⟩ := hq
  clear hy hy0 HZ HZ0
  have b4 := below_alloc (w := w2) (.cells #[.int .i64 0, .string ⟨#[]⟩, .int .i64 y2, .int .i64 y3, .int .i64 y4, .int .i64 y5] 25)
  have q8 := Blk.new w2 #[.int .i64 0, .string ⟨#[]⟩, .int .i64 y2, .int .i64 y3, .int .i64 y4, .int .i64 y5] 25
  have bb := b3.trans (b4.mono b3.size)
  replace q5 := q5.later bb
  replace own1 := own_kp own1 (Kp.of (X := fun _ => False) bb) (fun _ _ c => c)
  replace own2 := own_kp own2 (Kp.of (X := fun _ => False) b4) (fun _ _ c => c)
  replace hB := hB.trans (bb.mono hB.size)
  clear b3 b4 bb
  have f0 := q5.cell 0
  have g0 := q8.cell 0
  have f1 := q5.cell 1
  have g1 := q8.cell 1
  have f2 := q5.cell 2
  have g2 := q8.cell 2
  have f3 := q5.cell 3
  have g3 := q8.cell 3
  have f4 := q5.cell 4
  have g4 := q8.cell 4
  have f5 := q5.cell 5
  have g5 := q8.cell 5
  simp only [List.getElem?_toArray, List.getElem?_cons_zero, List.getElem?_cons_succ] at f0 g0 f1 g1 f2 g2 f3 g3 f4 g4 f5 g5
  have GS := hideT (same_is _ _ v1 v2 L _ own1 own2 (by omega))
  clear own1 own2 q5 q8
  go_wp2_with fail
  refine GS.out.mono ?_
  rintro e w5 ⟨rfl, b5⟩
  go_wp2
  go_ret
  exact ⟨rfl, hB.trans (b5.mono hB.size)⟩

end Go.Proofs.YtioolpjlffblkaaDoor
