/-
  The program's inQuotes and Print.
-/
import Derived.Test.YtpfmamimhhnbiaaGreatDoorTP1
import Derived.Test.YtpfmamimhhnbiaaGreatDoorTSB
import Derived.Deep.Cut
namespace Go.Proofs.YtpfmamimhhnbiaaGreatDoor
open Go.RowKit
set_option linter.unusedVariables false
set_option linter.unusedSimpArgs false
set_option maxHeartbeats 4000000 in
set_option maxRecDepth 100000 in
theorem behind_is (hd t : ByteArray) (k b e l c : Int) (w : World) (hsz : hd.size + t.size ≤ 4294967280) (hM : MaxL w) (hmx : mxB < w.heap.size) : Calls Tryz.prog 51 #[.string hd, .agg #[.int .i64 k, .string t, .int .i64 b, .int .i64 e, .int .i64 l, .int .i64 c]] w fun r w' => ∃ s c', r = .returned (.tuple #[.string s, .int .i64 c']) ∧ ((OkT (hd ++ t) k t → s = hd ++ t ∧ c' = 0) ∧ (¬ OkT (hd ++ t) k t → s = empS ∧ c' = 120)) ∧ Below w.heap.size w w' := by
  have hB := below_alloc (w := w) (.cells #[.int .i64 k, .string t, .int .i64 b, .int .i64 e, .int .i64 l, .int .i64 c] 23)
  have qT := Blk.new w #[.int .i64 k, .string t, .int .i64 b, .int .i64 e, .int .i64 l, .int .i64 c] 23
  have eW : (w.alloc (.cells #[.int .i64 k, .string t, .int .i64 b, .int .i64 e, .int .i64 l, .int .i64 c] 23)).heap.size = w.heap.size + 1 := by simp
  have HO : Hid (OkT (hd ++ t) k t ↔ ∃ T, (allP (lsB (hd ++ t))).1 = [T] ∧ (allP (lsB (hd ++ t))).2 = 0 ∧ (T.k : Int) = k ∧ T.t = t) := hideT Iff.rfl
  go_enter Tryz.func51, Tryz.ntmps51
  go_upto_region 1 with fail
  generalize w.alloc (.cells #[.int .i64 k, .string t, .int .i64 b, .int .i64 e, .int .i64 l, .int .i64 c] 23) = W at hB qT eW ⊢
  have GA := hideT (all_is (hd ++ t) W (by rw [ByteArray.size_append]; omega) (hM.on hB) (by rw [eW]; omega))
  change Hid (Calls _ _ _ _ fun e w' => ∃ (v : Value) (z2 z3 z4 z5 : Int), e = .returned (.tuple #[v, .int .i64 (allP (lsB (hd ++ t))).2, _]) ∧ w'.ownsRow W.heap.size _ 6 v (allP (lsB (hd ++ t))).1.length (tokCells (allP (lsB (hd ++ t))).1) ∧ _ ∧ _) at GA
  generalize (allP (lsB (hd ++ t))).1 = L at GA HO
  generalize (allP (lsB (hd ++ t))).2 = er at GA HO
  clear eW
  have t0 := qT.cell 0
  have t1 := qT.cell 1
  simp only [List.getElem?_toArray, List.getElem?_cons_zero, List.getElem?_cons_succ] at t0 t1
  go_wp2_with fail
  refine GA.out.mono ?_
  rintro e_ w1 ⟨v, z2, z3, z4, z5, rfl, own, b1, _⟩
  clear GA t0 t1
  have b2 := below_alloc (w := w1) (.cells #[.int .i64 0, .string ⟨#[]⟩, .int .i64 z2, .int .i64 z3, .int .i64 z4, .int .i64 z5] 23)
  have bb := b1.trans (b2.mono b1.size)
  replace own := own_kp own (Kp.of (X := fun _ => False) b2) (fun _ _ c => c)
  replace qT := qT.later bb
  replace hB := hB.trans (bb.mono hB.size)
  clear b1 b2 bb
  have t0 := qT.cell 0
  have t1 := qT.cell 1
  simp only [List.getElem?_toArray, List.getElem?_cons_zero, List.getElem?_cons_succ] at t0 t1
  by_cases h0 : er = 0
  · subst h0
    obtain ⟨a0, cp, ev⟩ := own_sl own
    subst ev
    rcases L with _ | ⟨T, _ | ⟨T2, L⟩⟩
    · have HNO := hideT (show ¬ OkT (hd ++ t) k t from fun c => by obtain ⟨T, h1, _⟩ := HO.out.1 c; cases h1)
      clear HO own
      go_wp2_with fail
      go_quiet (fail)
      go_wp2
      refine bodyPost_ret (v := .tuple #[.string (⟨#[]⟩), .int .i64 120]) (by rw [results_ttB rfl]; go_simp) rfl ?_
      exact ⟨_, _, rfl, ⟨fun c => absurd c HNO.out, fun _ => ⟨rfl, rfl⟩⟩, hB.trans ⟨rfl, rfl, rfl, Nat.le_refl _, fun _ _ => rfl⟩⟩
    · rcases own.2 with ⟨_, h0⟩ | ⟨g, p1, r1, hv1, _⟩
      · exact absurd h0 (by simp)
      injection hv1 with hv1 _ hc1
      subst hv1
      subst hc1
      have z0 := own_tok own 0 0 (by simp) (by decide)
      have z1 := own_tok own 0 1 (by simp) (by decide)
      simp only [List.getElem_cons_zero, Tok.cells, List.getElem?_cons_zero, List.getElem?_cons_succ, Nat.zero_mul, Nat.zero_add] at z0 z1
      clear own
      by_cases hk : (T.k : Int) = k
      · have xk : ((T.k : Int) != k) = false := by rw [hk]; simp
        by_cases ht : T.t = t
        · have HOK := hideT (show OkT (hd ++ t) k t from HO.out.2 ⟨T, rfl, rfl, hk, ht⟩)
          clear HO
          subst ht
          go_wp2_with fail
          go_quiet (fail)
          go_wp2
          refine bodyPost_ret (v := .tuple #[.string (hd ++ T.t), .int .i64 0]) (by rw [results_ttB rfl]; go_simp) rfl ?_
          exact ⟨_, _, rfl, ⟨fun _ => ⟨rfl, rfl⟩, fun c => absurd HOK.out c⟩, hB.trans ⟨rfl, rfl, rfl, Nat.le_refl _, fun _ _ => rfl⟩⟩
        · have HNO := hideT (show ¬ OkT (hd ++ t) k t from fun c => by obtain ⟨T1, h1, _, _, h4⟩ := HO.out.1 c; injection h1 with h1 _; rw [h1] at ht; exact ht h4)
          clear HO
          have xt : (T.t.toList == t.toList) = false := by rw [beq_eq_false_iff_ne]; intro cc; exact ht (by apply ByteArray.ext; rw [ByteArray.toList_eq, ByteArray.toList_eq] at cc; exact Array.toList_inj.1 cc)
          have HT := hideT ht
          clear ht
          go_wp2_with fail
          go_quiet (fail)
          go_wp2
          refine bodyPost_ret (v := .tuple #[.string (⟨#[]⟩), .int .i64 120]) (by rw [results_ttB rfl]; go_simp) rfl ?_
          exact ⟨_, _, rfl, ⟨fun c => absurd c HNO.out, fun _ => ⟨rfl, rfl⟩⟩, hB.trans ⟨rfl, rfl, rfl, Nat.le_refl _, fun _ _ => rfl⟩⟩
      · have xk : ((T.k : Int) != k) = true := by rw [bne_iff_ne]; exact hk
        have HNO := hideT (show ¬ OkT (hd ++ t) k t from fun c => by obtain ⟨T1, h1, _, h3, _⟩ := HO.out.1 c; injection h1 with h1 _; rw [h1] at hk; exact hk h3)
        clear HO hk
        go_wp2_with fail
        go_quiet (fail)
        go_wp2
        refine bodyPost_ret (v := .tuple #[.string (⟨#[]⟩), .int .i64 120]) (by rw [results_ttB rfl]; go_simp) rfl ?_
        exact ⟨_, _, rfl, ⟨fun c => absurd c HNO.out, fun _ => ⟨rfl, rfl⟩⟩, hB.trans ⟨rfl, rfl, rfl, Nat.le_refl _, fun _ _ => rfl⟩⟩
    · have HNO := hideT (show ¬ OkT (hd ++ t) k t from fun c => by obtain ⟨T1, h1, _⟩ := HO.out.1 c; injection h1 with _ h1; cases h1)
      have xl : (((T :: T2 :: L).length : Int) != 1) = true := by rw [bne_iff_ne]; simp only [List.length_cons]; omega
      clear HO own
      generalize (T :: T2 :: L).length = nl at xl ⊢
      go_wp2_with fail
      go_quiet (fail)
      go_wp2
      refine bodyPost_ret (v := .tuple #[.string (⟨#[]⟩), .int .i64 120]) (by rw [results_ttB rfl]; go_simp) rfl ?_
      exact ⟨_, _, rfl, ⟨fun c => absurd c HNO.out, fun _ => ⟨rfl, rfl⟩⟩, hB.trans ⟨rfl, rfl, rfl, Nat.le_refl _, fun _ _ => rfl⟩⟩
  · have x0 : (er != 0) = true := by rw [bne_iff_ne]; exact h0
    have HNO := hideT (show ¬ OkT (hd ++ t) k t from fun c => by obtain ⟨T1, _, h2, _⟩ := HO.out.1 c; exact h0 h2)
    clear HO own h0
    go_wp2_with fail
    go_quiet (fail)
    go_wp2
    refine bodyPost_ret (v := .tuple #[.string (⟨#[]⟩), .int .i64 120]) (by rw [results_ttB rfl]; go_simp) rfl ?_
    exact ⟨_, _, rfl, ⟨fun c => absurd c HNO.out, fun _ => ⟨rfl, rfl⟩⟩, hB.trans ⟨rfl, rfl, rfl, Nat.le_refl _, fun _ _ => rfl⟩⟩

end Go.Proofs.YtpfmamimhhnbiaaGreatDoor

namespace Go.Proofs.YtpfmamimhhnbiaaGreatDoor
open Go.RowKit
set_option linter.unusedVariables false
set_option linter.unusedSimpArgs false

theorem bool_of (p : Prop) : ∃ b : Bool, b = true ↔ p := by
  by_cases h : p
  · exact ⟨true, fun _ => h, fun _ => rfl⟩
  · exact ⟨false, fun c => (by cases c), fun c => absurd c h⟩
theorem quo_is (t : ByteArray) : ((⟨#[34]⟩ : ByteArray) ++ ⟨(dbl (lsB t)).toArray⟩ ++ ⟨#[34]⟩) = quoS t := by
  apply ByteArray.ext
  unfold quoS
  rw [ByteArray.data_append, ByteArray.data_append]
  simp
theorem PrR.sy {t s : ByteArray} {c : Int} (h : (isPl t → s = t ∧ c = 0) ∧ (¬ isPl t → hasB nbN t → s = empS ∧ c = 122) ∧ (¬ isPl t → ¬ hasB nbN t → s = barS t ∧ c = 0)) : PrR 3 t s c :=
  ⟨fun _ => h, fun e => absurd e (by decide), fun e => absurd e (by decide), fun e => absurd rfl e⟩
theorem PrR.ke {t s : ByteArray} {c : Int} (h : (isPl t → s = ⟨#[58]⟩ ++ t ∧ c = 0) ∧ (¬ isPl t → s = empS ∧ c = 122)) : PrR 4 t s c :=
  ⟨fun e => absurd e (by decide), fun _ => h, fun e => absurd e (by decide), fun _ e => absurd rfl e⟩
theorem PrR.st {t s : ByteArray} {c : Int} (h : (hasB nqN t → s = empS ∧ c = 122) ∧ (¬ hasB nqN t → s = quoS t ∧ c = 0)) : PrR 9 t s c :=
  ⟨fun e => absurd e (by decide), fun e => absurd e (by decide), fun _ => h, fun _ _ e => absurd rfl e⟩
theorem PrR.ot {k : Int} {t s : ByteArray} {c : Int} (h3 : k ≠ 3) (h4 : k ≠ 4) (h9 : k ≠ 9) (h : (OkT (hdk k ++ t) k t → s = hdk k ++ t ∧ c = 0) ∧ (¬ OkT (hdk k ++ t) k t → s = empS ∧ c = 120)) : PrR k t s c :=
  ⟨fun e => absurd e h3, fun e => absurd e h4, fun e => absurd e h9, fun _ _ _ => h⟩
theorem replaceQ_is (s : ByteArray) (hs : s.size < 4294967281) (w : World) (hM : MaxL w) :
    Calls Tryz.prog 81 #[.string s, .string ⟨#[34]⟩, .string ⟨#[34, 34]⟩] w fun e w' => e = .returned (.string ⟨(dbl (lsB s)).toArray⟩) ∧ Below w.heap.size w w' := by
  obtain ⟨m, hm⟩ := hM
  have hc := Lib.countB_mul_le (⟨#[34]⟩ : ByteArray) (by decide) s.size s (Nat.le_refl _)
  have e1 : (⟨#[34]⟩ : ByteArray).size = 1 := rfl
  have e2 : (⟨#[34, 34]⟩ : ByteArray).size = 2 := rfl
  refine (Any.strings_ReplaceAll Tryz.lays155 Tryz.Builder_Extra_155 s ⟨#[34]⟩ ⟨#[34, 34]⟩ m w hs hm (by decide) (by rw [e1] at hc; rw [e2]; omega)).mono ?_
  rintro e w' ⟨h1, h2⟩
  refine ⟨?_, h2⟩
  rw [h1]
  show Ending.returned (.string ⟨(Lib.replaceAll s.data.toList [34] [34, 34]).toArray⟩) = _
  rw [replaceAll_dbl]
  rfl
set_option maxHeartbeats 2000000 in
set_option maxRecDepth 100000 in
theorem inQuotes_is (t : ByteArray) (hs : t.size ≤ 16777216) (n : Bool) (hn : n = true ↔ hasB nqN t) (w : World) (hM : MaxL w) :
    Calls Tryz.prog 50 #[.string t] w fun r w' => r = .returned (.tuple #[.string (if n = true then empS else quoS t), .int .i64 (if n = true then 122 else 0)]) ∧ Below w.heap.size w w' := by
  have H1 := hideT (containsFunc_quo t (by omega) n hn w)
  have H2 := hideT (fun w' (h : MaxL w') => replaceQ_is t (by omega) w' h)
  have HQ := hideT (quo_is t)
  have hz : (⟨(dbl (lsB t)).toArray⟩ : ByteArray).size ≤ 33554432 := by
    show (dbl (lsB t)).toArray.size ≤ _
    rw [List.size_toArray]
    have h1 := (dbl_len (lsB t)).2
    rw [lsB_len] at h1
    omega
  generalize (⟨(dbl (lsB t)).toArray⟩ : ByteArray) = D at H2 HQ hz
  clear hn
  cases n
  · rw [if_neg (by decide), if_neg (by decide)]
    go_enter Tryz.func50, Tryz.ntmps50
    go_wp2_with fail
    refine H1.out.mono ?_
    rintro e w1 ⟨rfl, b1⟩
    have hM1 := hM.on b1
    go_wp2_with fail
    refine (H2.out _ hM1).mono ?_
    rintro e w2 ⟨rfl, b2⟩
    go_wp2
    refine bodyPost_ret (v := .tuple #[.string (⟨#[34]⟩ ++ D ++ ⟨#[34]⟩), .int .i64 0]) (by rw [results_ttB rfl]; go_simp) rfl ?_
    exact ⟨by rw [HQ.out], b1.trans (b2.mono b1.size)⟩
  · rw [if_pos rfl, if_pos rfl]
    go_enter Tryz.func50, Tryz.ntmps50
    go_wp2_with fail
    refine H1.out.mono ?_
    rintro e w1 ⟨rfl, b1⟩
    go_wp2
    refine bodyPost_ret (v := .tuple #[.string ⟨#[]⟩, .int .i64 122]) (by rw [results_ttB rfl]; go_simp) rfl ?_
    exact ⟨rfl, b1⟩
set_option maxHeartbeats 4000000 in
set_option maxRecDepth 100000 in
theorem print_big (k : Int) (t : ByteArray) (b e l c : Int) (w : World) (hs : t.size ≤ 16777216) (hM : MaxL w) (hmx : mxB < w.heap.size) : Calls Tryz.prog 30 #[.agg #[.int .i64 k, .string t, .int .i64 b, .int .i64 e, .int .i64 l, .int .i64 c]] w fun r w' => ∃ s c', r = .returned (.tuple #[.string s, .int .i64 c']) ∧ PrR k t s c' ∧ Below w.heap.size w w' := by
  have hB := below_alloc (w := w) (.cells #[.int .i64 k, .string t, .int .i64 b, .int .i64 e, .int .i64 l, .int .i64 c] 23)
  have qT := Blk.new w #[.int .i64 k, .string t, .int .i64 b, .int .i64 e, .int .i64 l, .int .i64 c] 23
  have eW : (w.alloc (.cells #[.int .i64 k, .string t, .int .i64 b, .int .i64 e, .int .i64 l, .int .i64 c] 23)).heap.size = w.heap.size + 1 := by simp
  obtain ⟨p, hp⟩ := bool_of (isPl t)
  obtain ⟨n, hn⟩ := bool_of (hasB nbN t)
  obtain ⟨q, hq⟩ := bool_of (hasB nqN t)
  have HP := hideT hp
  have HN := hideT hn
  have HQ := hideT hq
  have G3 := hideT (fun W => symbol_is t (by omega) p n hp hn W)
  have G4 := hideT (fun W => plain_is t (by omega) p hp W)
  have G9 := hideT (fun W h => inQuotes_is t hs q hq W h)
  clear hp hn hq
  go_enter Tryz.func30, Tryz.ntmps30
  go_upto_region 1 with fail
  generalize w.alloc (.cells #[.int .i64 k, .string t, .int .i64 b, .int .i64 e, .int .i64 l, .int .i64 c] 23) = W at hB qT eW ⊢
  have hMW := hM.on hB
  have t0 := qT.cell 0
  have t1 := qT.cell 1
  have t2 := qT.cell 2
  have t3 := qT.cell 3
  have t4 := qT.cell 4
  have t5 := qT.cell 5
  simp only [List.getElem?_toArray, List.getElem?_cons_zero, List.getElem?_cons_succ] at t0 t1 t2 t3 t4 t5
  by_cases k3 : k = 3
  · subst k3
    cases p
    · cases n
      · skip
        go_wp2_with fail
        refine (G3.out _).mono ?_
        unfold symA
        rintro e_ w1 ⟨rfl, b1⟩
        go_wp2
        refine bodyPost_ret (v := .tuple #[.string (barS t), .int .i64 0]) (by rw [results_ttB rfl]; go_simp) rfl ?_
        exact ⟨_, _, rfl, .sy ⟨fun c => absurd (HP.out.2 c) (by decide), fun _ c => absurd (HN.out.2 c) (by decide), fun _ _ => ⟨rfl, rfl⟩⟩, hB.trans (b1.mono hB.size)⟩
      · skip
        go_wp2_with fail
        refine (G3.out _).mono ?_
        unfold symA
        rintro e_ w1 ⟨rfl, b1⟩
        go_wp2
        refine bodyPost_ret (v := .tuple #[.string (⟨#[]⟩), .int .i64 122]) (by rw [results_ttB rfl]; go_simp) rfl ?_
        exact ⟨_, _, rfl, .sy ⟨fun c => absurd (HP.out.2 c) (by decide), fun _ _ => ⟨rfl, rfl⟩, fun _ c => absurd (HN.out.1 (by simp)) c⟩, hB.trans (b1.mono hB.size)⟩
    · skip
      go_wp2_with fail
      refine (G3.out _).mono ?_
      unfold symA
      rintro e_ w1 ⟨rfl, b1⟩
      go_wp2
      refine bodyPost_ret (v := .tuple #[.string (t), .int .i64 0]) (by rw [results_ttB rfl]; go_simp) rfl ?_
      exact ⟨_, _, rfl, .sy ⟨fun _ => ⟨rfl, rfl⟩, fun c => absurd (HP.out.1 (by simp)) c, fun c => absurd (HP.out.1 (by simp)) c⟩, hB.trans (b1.mono hB.size)⟩
  have x3 : (k == 3) = false := by rw [beq_eq_false_iff_ne]; exact k3
  by_cases k4 : k = 4
  · subst k4
    clear k3 x3
    cases p
    · skip
      go_wp2_with fail
      refine (G4.out _).mono ?_
      rintro e_ w1 ⟨rfl, b1⟩
      replace t1 := below_cell b1 t1
      go_wp2
      refine bodyPost_ret (v := .tuple #[.string (⟨#[]⟩), .int .i64 122]) (by rw [results_ttB rfl]; go_simp) rfl ?_
      exact ⟨_, _, rfl, .ke ⟨fun c => absurd (HP.out.2 c) (by decide), fun _ => ⟨rfl, rfl⟩⟩, hB.trans (b1.mono hB.size)⟩
    · skip
      go_wp2_with fail
      refine (G4.out _).mono ?_
      rintro e_ w1 ⟨rfl, b1⟩
      replace t1 := below_cell b1 t1
      go_wp2
      refine bodyPost_ret (v := .tuple #[.string (⟨#[58]⟩ ++ t), .int .i64 0]) (by rw [results_ttB rfl]; go_simp) rfl ?_
      exact ⟨_, _, rfl, .ke ⟨fun _ => ⟨rfl, rfl⟩, fun c => absurd (HP.out.1 (by simp)) c⟩, hB.trans (b1.mono hB.size)⟩
  have x4 : (k == 4) = false := by rw [beq_eq_false_iff_ne]; exact k4
  by_cases k9 : k = 9
  · subst k9
    clear k3 x3 k4 x4
    cases q
    · have G := hideT (G9.out W hMW)
      rw [if_neg (by decide), if_neg (by decide)] at G
      go_wp2_with fail
      refine (G.out).mono ?_
      rintro e_ w1 ⟨rfl, b1⟩
      go_wp2
      refine bodyPost_ret (v := .tuple #[.string (quoS t), .int .i64 0]) (by rw [results_ttB rfl]; go_simp) rfl ?_
      exact ⟨_, _, rfl, .st ⟨fun c => absurd (HQ.out.2 c) (by decide), fun _ => ⟨rfl, rfl⟩⟩, hB.trans (b1.mono hB.size)⟩
    · have G := hideT (G9.out W hMW)
      rw [if_pos rfl, if_pos rfl] at G
      go_wp2_with fail
      refine (G.out).mono ?_
      rintro e_ w1 ⟨rfl, b1⟩
      go_wp2
      refine bodyPost_ret (v := .tuple #[.string (empS), .int .i64 122]) (by rw [results_ttB rfl]; go_simp) rfl ?_
      exact ⟨_, _, rfl, .st ⟨fun _ => ⟨rfl, rfl⟩, fun c => absurd (HQ.out.1 (by simp)) c⟩, hB.trans (b1.mono hB.size)⟩
  have x9 : (k == 9) = false := by rw [beq_eq_false_iff_ne]; exact k9
  have GO := hideT (fun (hd : ByteArray) (h : hd.size + t.size ≤ 4294967280) => behind_is hd t k b e l c W h hMW (by rw [eW]; omega))
  by_cases k7 : k = 7
  · have x7 : (k == 7) = true := by rw [k7]; rfl
    have G := hideT (GO.out (hdk k) (by unfold hdk; rw [if_pos k7]; show 2 + t.size ≤ _; omega))
    have eh : hdk k = ⟨#[35, 120]⟩ := by unfold hdk; rw [if_pos k7]
    have HP3 := hideT (And.intro k3 (And.intro k4 k9))
    have HEH := hideT eh
    rw [eh] at G
    clear eh k3 k4 k9 k7 GO
    go_wp2_with fail
    refine (G.out).mono ?_
    rintro e_ w1 ⟨s, c2, rfl, pr, b1⟩
    rw [← HEH.out] at pr
    have HPR := hideT pr
    clear pr
    go_wp2
    refine bodyPost_ret (v := .tuple #[.string (s), .int .i64 c2]) (by rw [results_ttB rfl]; go_simp) rfl ?_
    exact ⟨_, _, rfl, .ot HP3.out.1 HP3.out.2.1 HP3.out.2.2 HPR.out, hB.trans (b1.mono hB.size)⟩
  have x7 : (k == 7) = false := by rw [beq_eq_false_iff_ne]; exact k7
  by_cases k8 : k = 8
  · have x8 : (k == 8) = true := by rw [k8]; rfl
    have G := hideT (GO.out (hdk k) (by unfold hdk; rw [if_neg k7, if_pos k8]; show 2 + t.size ≤ _; omega))
    have eh : hdk k = ⟨#[35, 98]⟩ := by unfold hdk; rw [if_neg k7, if_pos k8]
    have HP3 := hideT (And.intro k3 (And.intro k4 k9))
    have HEH := hideT eh
    rw [eh] at G
    clear eh k3 k4 k9 k7 k8 GO
    go_wp2_with fail
    refine (G.out).mono ?_
    rintro e_ w1 ⟨s, c2, rfl, pr, b1⟩
    rw [← HEH.out] at pr
    have HPR := hideT pr
    clear pr
    go_wp2
    refine bodyPost_ret (v := .tuple #[.string (s), .int .i64 c2]) (by rw [results_ttB rfl]; go_simp) rfl ?_
    exact ⟨_, _, rfl, .ot HP3.out.1 HP3.out.2.1 HP3.out.2.2 HPR.out, hB.trans (b1.mono hB.size)⟩
  have x8 : (k == 8) = false := by rw [beq_eq_false_iff_ne]; exact k8
  have G := hideT (GO.out (hdk k) (by unfold hdk; rw [if_neg k7, if_neg k8]; show 0 + t.size ≤ _; omega))
  have eh : hdk k = ⟨#[]⟩ := by unfold hdk; rw [if_neg k7, if_neg k8]
  have HP3 := hideT (And.intro k3 (And.intro k4 k9))
  have HEH := hideT eh
  rw [eh] at G
  clear eh k3 k4 k9 k7 k8 GO
  go_wp2_with fail
  refine (G.out).mono ?_
  rintro e_ w1 ⟨s, c2, rfl, pr, b1⟩
  rw [← HEH.out] at pr
  have HPR := hideT pr
  clear pr
  go_wp2
  refine bodyPost_ret (v := .tuple #[.string (s), .int .i64 c2]) (by rw [results_ttB rfl]; go_simp) rfl ?_
  exact ⟨_, _, rfl, .ot HP3.out.1 HP3.out.2.1 HP3.out.2.2 HPR.out, hB.trans (b1.mono hB.size)⟩

theorem print_is (k : Int) (t : ByteArray) (b e l c : Int) (w : World) (hs : t.size ≤ 1048576) (hM : MaxL w) (hmx : mxB < w.heap.size) : Calls Tryz.prog 30 #[.agg #[.int .i64 k, .string t, .int .i64 b, .int .i64 e, .int .i64 l, .int .i64 c]] w fun r w' => ∃ s c', r = .returned (.tuple #[.string s, .int .i64 c']) ∧ PrR k t s c' ∧ Below w.heap.size w w' := print_big k t b e l c w (by omega) hM hmx
end Go.Proofs.YtpfmamimhhnbiaaGreatDoor
