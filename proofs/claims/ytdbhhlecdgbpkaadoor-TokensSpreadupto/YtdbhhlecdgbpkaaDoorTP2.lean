/-
  The program's behind.
-/
import Derived.Test.YtdbhhlecdgbpkaaDoorTP1
import Derived.Test.YtdbhhlecdgbpkaaDoorTSB
import Derived.Deep.Cut
namespace Go.Proofs.YtdbhhlecdgbpkaaDoor
open Go.RowKit
set_option linter.unusedVariables false
set_option linter.unusedSimpArgs false
set_option maxHeartbeats 4000000 in
set_option maxRecDepth 100000 in
theorem behind_is (hd t : ByteArray) (k b e l c : Int) (w : World) (hsz : hd.size + t.size ≤ 4294967280) (hM : MaxL w) (hmx : mxB < w.heap.size) : Calls Tryd.prog 14 #[.string hd, .agg #[.int .i64 k, .string t, .int .i64 b, .int .i64 e, .int .i64 l, .int .i64 c]] w fun r w' => ∃ s c', r = .returned (.tuple #[.string s, .int .i64 c']) ∧ ((OkT (hd ++ t) k t → s = hd ++ t ∧ c' = 0) ∧ (¬ OkT (hd ++ t) k t → s = empS ∧ c' = 120)) ∧ Below w.heap.size w w' := by
  have hB := below_alloc (w := w) (.cells #[.int .i64 k, .string t, .int .i64 b, .int .i64 e, .int .i64 l, .int .i64 c] 25)
  have qT := Blk.new w #[.int .i64 k, .string t, .int .i64 b, .int .i64 e, .int .i64 l, .int .i64 c] 25
  have eW : (w.alloc (.cells #[.int .i64 k, .string t, .int .i64 b, .int .i64 e, .int .i64 l, .int .i64 c] 25)).heap.size = w.heap.size + 1 := by simp
  have HO : Hid (OkT (hd ++ t) k t ↔ ∃ T, (allP (lsB (hd ++ t))).1 = [T] ∧ (allP (lsB (hd ++ t))).2 = 0 ∧ (T.k : Int) = k ∧ T.t = t) := hideT Iff.rfl
  go_enter Tryd.func14, Tryd.ntmps14
  go_upto_region 1 with fail
  generalize w.alloc (.cells #[.int .i64 k, .string t, .int .i64 b, .int .i64 e, .int .i64 l, .int .i64 c] 25) = W at hB qT eW ⊢
  have GA := hideT (all_is (hd ++ t) W (by rw [ByteArray.size_append]; omega) (hM.on hB) (by rw [eW]; omega))
  change Hid (Calls _ _ _ _ fun e w' => ∃ (v : Value) (z2 z3 z4 z5 : Int), e = .returned (.tuple #[v, .int .i64 (allP (lsB (hd ++ t))).2, _]) ∧ w'.ownsRow W.heap.size _ 6 v (allP (lsB (hd ++ t))).1.length (tokCells (allP (lsB (hd ++ t))).1) ∧ _ ∧ _) at GA
  generalize (allP (lsB (hd ++ t))).1 = L at GA HO
  generalize (allP (lsB (hd ++ t))).2 = er at GA HO
  clear eW
  have t0 := qT.cell 0
  have t1 := qT.cell 1
  simp only [List.getElem?_toArray, List.getElem?_cons_zero, List.getElem?_cons_succ] at t0 t1
  go_wp2_with fail
  refine GA.out.mono ?_
  rintro e_ w1 ⟨v, z2, z3, z4, z5, rfl, own, b1, _⟩
  clear GA t0 t1
  have b2 := below_alloc (w := w1) (.cells #[.int .i64 0, .string ⟨#[]⟩, .int .i64 z2, .int .i64 z3, .int .i64 z4, .int .i64 z5] 25)
  have bb := b1.trans (b2.mono b1.size)
  replace own := own_kp own (Kp.of (X := fun _ => False) b2) (fun _ _ c => c)
  replace qT := qT.later bb
  replace hB := hB.trans (bb.mono hB.size)
  clear b1 b2 bb
  have t0 := qT.cell 0
  have t1 := qT.cell 1
  simp only [List.getElem?_toArray, List.getElem?_cons_zero, List.getElem?_cons_succ] at t0 t1
  by_cases h0 : er = 0
  · subst h0
    obtain ⟨a0, cp, ev⟩ := own_sl own
    subst ev
    rcases L with _ | ⟨T, _ | ⟨T2, L⟩⟩
    · have HNO := hideT (show ¬ OkT (hd ++ t) k t from fun c => by obtain ⟨T, h1, _⟩ := HO.out.1 c; cases h1)
      clear HO own
      go_wp2_with fail
      go_quiet (fail)
      go_wp2
      refine bodyPost_ret (v := .tuple #[.string (⟨#[]⟩), .int .i64 120]) (by rw [results_ttB rfl]; go_simp) rfl ?_
      exact ⟨_, _, rfl, ⟨fun c => absurd c HNO.out, fun _ => ⟨rfl, rfl⟩⟩, hB.trans ⟨rfl, rfl, rfl, Nat.le_refl _, fun _ _ => rfl⟩⟩
    · rcases own.2 with ⟨_, h0⟩ | ⟨g, p1, r1, hv1, _⟩
      · exact absurd h0 (by simp)
      injection hv1 with hv1 _ hc1
      subst hv1
      subst hc1
      have z0 := own_tok own 0 0 (by simp) (by decide)
      have z1 := own_tok own 0 1 (by simp) (by decide)
      simp only [List.getElem_cons_zero, Tok.cells, List.getElem?_cons_zero, List.getElem?_cons_succ, Nat.zero_mul, Nat.zero_add] at z0 z1
      clear own
      by_cases hk : (T.k : Int) = k
      · have xk : ((T.k : Int) != k) = false := by rw [hk]; simp
        by_cases ht : T.t = t
        · have HOK := hideT (show OkT (hd ++ t) k t from HO.out.2 ⟨T, rfl, rfl, hk, ht⟩)
          clear HO
          subst ht
          go_wp2_with fail
          go_quiet (fail)
          go_wp2
          refine bodyPost_ret (v := .tuple #[.string (hd ++ T.t), .int .i64 0]) (by rw [results_ttB rfl]; go_simp) rfl ?_
          exact ⟨_, _, rfl, ⟨fun _ => ⟨rfl, rfl⟩, fun c => absurd HOK.out c⟩, hB.trans ⟨rfl, rfl, rfl, Nat.le_refl _, fun _ _ => rfl⟩⟩
        · have HNO := hideT (show ¬ OkT (hd ++ t) k t from fun c => by obtain ⟨T1, h1, _, _, h4⟩ := HO.out.1 c; injection h1 with h1 _; rw [h1] at ht; exact ht h4)
          clear HO
          have xt : (T.t.toList == t.toList) = false := by rw [beq_eq_false_iff_ne]; intro cc; exact ht (by apply ByteArray.ext; rw [ByteArray.toList_eq, ByteArray.toList_eq] at cc; exact Array.toList_inj.1 cc)
          have HT := hideT ht
          clear ht
          go_wp2_with fail
          go_quiet (fail)
          go_wp2
          refine bodyPost_ret (v := .tuple #[.string (⟨#[]⟩), .int .i64 120]) (by rw [results_ttB rfl]; go_simp) rfl ?_
          exact ⟨_, _, rfl, ⟨fun c => absurd c HNO.out, fun _ => ⟨rfl, rfl⟩⟩, hB.trans ⟨rfl, rfl, rfl, Nat.le_refl _, fun _ _ => rfl⟩⟩
      · have xk : ((T.k : Int) != k) = true := by rw [bne_iff_ne]; exact hk
        have HNO := hideT (show ¬ OkT (hd ++ t) k t from fun c => by obtain ⟨T1, h1, _, h3, _⟩ := HO.out.1 c; injection h1 with h1 _; rw [h1] at hk; exact hk h3)
        clear HO hk
        go_wp2_with fail
        go_quiet (fail)
        go_wp2
        refine bodyPost_ret (v := .tuple #[.string (⟨#[]⟩), .int .i64 120]) (by rw [results_ttB rfl]; go_simp) rfl ?_
        exact ⟨_, _, rfl, ⟨fun c => absurd c HNO.out, fun _ => ⟨rfl, rfl⟩⟩, hB.trans ⟨rfl, rfl, rfl, Nat.le_refl _, fun _ _ => rfl⟩⟩
    · have HNO := hideT (show ¬ OkT (hd ++ t) k t from fun c => by obtain ⟨T1, h1, _⟩ := HO.out.1 c; injection h1 with _ h1; cases h1)
      have xl : (((T :: T2 :: L).length : Int) != 1) = true := by rw [bne_iff_ne]; simp only [List.length_cons]; omega
      clear HO own
      generalize (T :: T2 :: L).length = nl at xl ⊢
      go_wp2_with fail
      go_quiet (fail)
      go_wp2
      refine bodyPost_ret (v := .tuple #[.string (⟨#[]⟩), .int .i64 120]) (by rw [results_ttB rfl]; go_simp) rfl ?_
      exact ⟨_, _, rfl, ⟨fun c => absurd c HNO.out, fun _ => ⟨rfl, rfl⟩⟩, hB.trans ⟨rfl, rfl, rfl, Nat.le_refl _, fun _ _ => rfl⟩⟩
  · have x0 : (er != 0) = true := by rw [bne_iff_ne]; exact h0
    have HNO := hideT (show ¬ OkT (hd ++ t) k t from fun c => by obtain ⟨T1, _, h2, _⟩ := HO.out.1 c; exact h0 h2)
    clear HO own h0
    go_wp2_with fail
    go_quiet (fail)
    go_wp2
    refine bodyPost_ret (v := .tuple #[.string (⟨#[]⟩), .int .i64 120]) (by rw [results_ttB rfl]; go_simp) rfl ?_
    exact ⟨_, _, rfl, ⟨fun c => absurd c HNO.out, fun _ => ⟨rfl, rfl⟩⟩, hB.trans ⟨rfl, rfl, rfl, Nat.le_refl _, fun _ _ => rfl⟩⟩

end Go.Proofs.YtdbhhlecdgbpkaaDoor
