/-
  The reference's Print; TokensPrints and TokensBack: the walks.
-/
import Derived.Test.YtmgecifbimhjkaaDoorTP4
import Derived.Test.YtmgecifbimhjkaaDoorTRC
namespace Go.Proofs.YtmgecifbimhjkaaDoor
open Go.RowKit
set_option linter.unusedVariables false
set_option linter.unusedSimpArgs false

theorem PrR.cases {k : Int} {t s : ByteArray} {c : Int} (h : PrR k t s c) : (c = 0 ∧ (s = t ∨ s = barS t ∨ s = ⟨#[58]⟩ ++ t ∨ s = quoS t ∨ s = hdk k ++ t)) ∨ (c ≠ 0 ∧ s = empS) := by
  by_cases k3 : k = 3
  · obtain ⟨a1, a2, a3⟩ := h.sym k3
    by_cases hp : isPl t
    · exact Or.inl ⟨(a1 hp).2, Or.inl (a1 hp).1⟩
    · by_cases hn : hasB nbN t
      · exact Or.inr ⟨by rw [(a2 hp hn).2]; decide, (a2 hp hn).1⟩
      · exact Or.inl ⟨(a3 hp hn).2, Or.inr (Or.inl (a3 hp hn).1)⟩
  by_cases k4 : k = 4
  · obtain ⟨a1, a2⟩ := h.key k4
    by_cases hp : isPl t
    · exact Or.inl ⟨(a1 hp).2, Or.inr (Or.inr (Or.inl (a1 hp).1))⟩
    · exact Or.inr ⟨by rw [(a2 hp).2]; decide, (a2 hp).1⟩
  by_cases k9 : k = 9
  · obtain ⟨a1, a2⟩ := h.str k9
    by_cases hp : hasB nqN t
    · exact Or.inr ⟨by rw [(a1 hp).2]; decide, (a1 hp).1⟩
    · exact Or.inl ⟨(a2 hp).2, Or.inr (Or.inr (Or.inr (Or.inl (a2 hp).1)))⟩
  obtain ⟨a1, a2⟩ := h.oth k3 k4 k9
  by_cases hp : OkT (hdk k ++ t) k t
  · exact Or.inl ⟨(a1 hp).2, Or.inr (Or.inr (Or.inr (Or.inr (a1 hp).1)))⟩
  · exact Or.inr ⟨by rw [(a2 hp).2]; decide, (a2 hp).1⟩
theorem hdk_size (k : Int) : (hdk k).size ≤ 2 := by
  unfold hdk
  split
  · exact Nat.le_refl 2
  · split
    · exact Nat.le_refl 2
    · exact Nat.zero_le 2
theorem quoS_size (t : ByteArray) : (quoS t).size ≤ 2 * t.size + 2 := by
  have h1 := (dbl_len (lsB t)).2
  rw [lsB_len] at h1
  show (34 :: (dbl (lsB t) ++ [34])).toArray.size ≤ _
  rw [List.size_toArray]
  simp only [List.length_cons, List.length_append, List.length_nil]
  omega
theorem PrR.size {k : Int} {t s : ByteArray} {c : Int} (h : PrR k t s c) : s.size ≤ 2 * t.size + 2 := by
  rcases h.cases with ⟨_, e | e | e | e | e⟩ | ⟨_, e⟩
  · rw [e]; omega
  · rw [e]; unfold barS; rw [ByteArray.size_append, ByteArray.size_append]; show 1 + t.size + 1 ≤ _; omega
  · rw [e, ByteArray.size_append]; show 1 + t.size ≤ _; omega
  · rw [e]; exact quoS_size t
  · rw [e, ByteArray.size_append]; have := hdk_size k; omega
  · rw [e]; exact Nat.zero_le _
theorem PrR.err {k : Int} {t s : ByteArray} {c : Int} (h : PrR k t s c) (hc : c ≠ 0) : s = empS := by
  rcases h.cases with ⟨e, _⟩ | ⟨_, e⟩
  · exact absurd e hc
  · exact e
theorem WrR.size {k : Int} {t s : ByteArray} (h : WrR k t s 0) : s.size ≤ 2 * t.size + 2 := by
  obtain ⟨h1, h2, h3⟩ := h
  by_cases hk : k = 3 ∨ k = 4 ∨ k = 9
  · exact (h1 hk).size
  · by_cases hk2 : 1 ≤ k ∧ k ≤ 9
    · rw [(h2 (by omega)).1, ByteArray.size_append]; have := hdk_size k; omega
    · exact absurd (h3 hk2) (by decide)
theorem WrR.bad {k : Int} {t s : ByteArray} {c : Int} (h : WrR k t s c) (hc : c ≠ 0) : PrR k t empS c := by
  obtain ⟨h1, h2, h3⟩ := h
  by_cases hk : k = 3 ∨ k = 4 ∨ k = 9
  · have := h1 hk
    rw [this.err hc] at this
    exact this
  · by_cases hk2 : 1 ≤ k ∧ k ≤ 9
    · exact absurd (h2 (by omega)).2 hc
    · exact .ot (by omega) (by omega) (by omega) ⟨fun c => absurd (ok_kind c) hk2, fun _ => ⟨rfl, h3 hk2⟩⟩
theorem WrR.ok {k : Int} {t s : ByteArray} (h : WrR k t s 0) (ho : OkT s k t) : PrR k t s 0 := by
  obtain ⟨h1, h2, h3⟩ := h
  by_cases hk : k = 3 ∨ k = 4 ∨ k = 9
  · exact h1 hk
  · by_cases hk2 : 1 ≤ k ∧ k ≤ 9
    · have e := (h2 (by omega)).1
      rw [e] at ho
      exact .ot (by omega) (by omega) (by omega) ⟨fun _ => ⟨e, rfl⟩, fun c => absurd ho c⟩
    · exact absurd (h3 hk2) (by decide)
theorem WrR.no {k : Int} {t s : ByteArray} (h : WrR k t s 0) (ho : ¬ OkT s k t) : PrR k t empS 120 := by
  obtain ⟨h1, h2, h3⟩ := h
  by_cases hk : k = 3 ∨ k = 4 ∨ k = 9
  · exact absurd (h1 hk).one.ok ho
  · by_cases hk2 : 1 ≤ k ∧ k ≤ 9
    · have e := (h2 (by omega)).1
      rw [e] at ho
      exact .ot (by omega) (by omega) (by omega) ⟨fun c => absurd c ho, fun _ => ⟨rfl, rfl⟩⟩
    · exact absurd (h3 hk2) (by decide)
set_option maxHeartbeats 4000000 in
set_option maxRecDepth 100000 in
theorem rPrint_is (k : Int) (t : ByteArray) (b e l c : Int) (w : World) (hs : t.size ≤ 1048576) : Calls Tryd.prog 9 #[.agg #[.int .i64 k, .string t, .int .i64 b, .int .i64 e, .int .i64 l, .int .i64 c]] w fun r w' => ∃ s c', r = .returned (.tuple #[.string s, .int .i64 c']) ∧ PrR k t s c' ∧ Below w.heap.size w w' := by
  have hB := below_alloc (w := w) (.cells #[.int .i64 k, .string t, .int .i64 b, .int .i64 e, .int .i64 l, .int .i64 c] 23)
  have qT := Blk.new w #[.int .i64 k, .string t, .int .i64 b, .int .i64 e, .int .i64 l, .int .i64 c] 23
  have eW : (w.alloc (.cells #[.int .i64 k, .string t, .int .i64 b, .int .i64 e, .int .i64 l, .int .i64 c] 23)).heap.size = w.heap.size + 1 := by simp
  go_enter Tryd.func9, Tryd.ntmps9
  go_upto_region 1 with fail
  generalize w.alloc (.cells #[.int .i64 k, .string t, .int .i64 b, .int .i64 e, .int .i64 l, .int .i64 c] 23) = W at hB qT eW ⊢
  have t0 := qT.cell 0
  have t1 := qT.cell 1
  have t2 := qT.cell 2
  have t3 := qT.cell 3
  have t4 := qT.cell 4
  have t5 := qT.cell 5
  simp only [List.getElem?_toArray, List.getElem?_cons_zero, List.getElem?_cons_succ] at t0 t1 t2 t3 t4 t5
  have GW := hideT (fun W => written_is k t b e l c W hs)
  go_wp2_with fail
  refine (GW.out _).mono ?_
  rintro e_ w1 ⟨s, c2, rfl, wr, b1⟩
  clear GW t0 t1 t2 t3 t4 t5
  replace qT := qT.later b1
  replace hB := hB.trans (b1.mono hB.size)
  clear b1
  by_cases h0 : c2 = 0
  · subst h0
    have hsz := wr.size
    obtain ⟨r1, r2, _⟩ := rdF_zero (lsB s)
    have GR := hideT (fun W => read_is s (lsB s) rfl true W (by omega))
    rw [r1, r2] at GR
    clear r1 r2
    have HO : Hid (OkT s k t ↔ ∃ T, (allP (lsB s)).1 = [T] ∧ (allP (lsB s)).2 = 0 ∧ (T.k : Int) = k ∧ T.t = t) := hideT Iff.rfl
    generalize (allP (lsB s)).1 = L at GR HO
    generalize (allP (lsB s)).2 = er at GR HO
    generalize (rdF true (lsB s) 0).2.2 = pl at GR
    have HW := hideT wr
    clear wr
    go_wp2_with fail
    refine (GR.out _).mono ?_
    rintro e_ w2 ⟨v, rfl, own, b2, _⟩
    clear GR
    replace qT := qT.later b2
    replace hB := hB.trans (b2.mono hB.size)
    clear b2
    have t0 := qT.cell 0
    have t1 := qT.cell 1
    simp only [List.getElem?_toArray, List.getElem?_cons_zero, List.getElem?_cons_succ] at t0 t1
    obtain ⟨a0, cp, ev⟩ := own_sl own
    subst ev
    by_cases h0 : er = 0
    · subst h0
      rcases L with _ | ⟨T, _ | ⟨T2, L⟩⟩
      · have HNO := hideT (show ¬ OkT s k t from fun c => by obtain ⟨T, h1, _⟩ := HO.out.1 c; cases h1)
        clear HO own
        go_wp2_with fail
        go_quiet (fail)
        go_wp2
        refine bodyPost_ret (v := .tuple #[.string (⟨#[]⟩), .int .i64 120]) (by rw [results_ttB rfl]; go_simp) rfl ?_
        exact ⟨_, _, rfl, HW.out.no HNO.out, hB.trans ⟨rfl, rfl, rfl, Nat.le_refl _, fun _ _ => rfl⟩⟩
      · rcases own.2 with ⟨_, h0⟩ | ⟨g, p1, r1, hv1, _⟩
        · exact absurd h0 (by simp)
        injection hv1 with hv1 _ hc1
        subst hv1
        subst hc1
        have z0 := own_tok own 0 0 (by simp) (by decide)
        have z1 := own_tok own 0 1 (by simp) (by decide)
        simp only [List.getElem_cons_zero, Tok.cells, List.getElem?_cons_zero, List.getElem?_cons_succ, Nat.zero_mul, Nat.zero_add] at z0 z1
        clear own
        by_cases hk : (T.k : Int) = k
        · have xk : ((T.k : Int) != k) = false := by rw [hk]; simp
          by_cases ht : T.t = t
          · have HOK := hideT (HW.out.ok (HO.out.2 ⟨T, rfl, rfl, hk, ht⟩))
            clear HO HW
            subst ht
            clear hk
            go_wp2_with fail
            go_quiet (fail)
            go_wp2
            refine bodyPost_ret (v := .tuple #[.string (s), .int .i64 0]) (by rw [results_ttB rfl]; go_simp) rfl ?_
            exact ⟨_, _, rfl, HOK.out, hB.trans ⟨rfl, rfl, rfl, Nat.le_refl _, fun _ _ => rfl⟩⟩
          · have HNO := hideT (show ¬ OkT s k t from fun c => by obtain ⟨T1, h1, _, _, h4⟩ := HO.out.1 c; injection h1 with h1 _; rw [h1] at ht; exact ht h4)
            clear HO
            have xt : (T.t.toList == t.toList) = false := by rw [beq_eq_false_iff_ne]; intro cc; exact ht (by apply ByteArray.ext; rw [ByteArray.toList_eq, ByteArray.toList_eq] at cc; exact Array.toList_inj.1 cc)
            clear ht hk
            go_wp2_with fail
            go_quiet (fail)
            go_wp2
            refine bodyPost_ret (v := .tuple #[.string (⟨#[]⟩), .int .i64 120]) (by rw [results_ttB rfl]; go_simp) rfl ?_
            exact ⟨_, _, rfl, HW.out.no HNO.out, hB.trans ⟨rfl, rfl, rfl, Nat.le_refl _, fun _ _ => rfl⟩⟩
        · have xk : ((T.k : Int) != k) = true := by rw [bne_iff_ne]; exact hk
          have HNO := hideT (show ¬ OkT s k t from fun c => by obtain ⟨T1, h1, _, h3, _⟩ := HO.out.1 c; injection h1 with h1 _; rw [h1] at hk; exact hk h3)
          clear HO hk
          go_wp2_with fail
          go_quiet (fail)
          go_wp2
          refine bodyPost_ret (v := .tuple #[.string (⟨#[]⟩), .int .i64 120]) (by rw [results_ttB rfl]; go_simp) rfl ?_
          exact ⟨_, _, rfl, HW.out.no HNO.out, hB.trans ⟨rfl, rfl, rfl, Nat.le_refl _, fun _ _ => rfl⟩⟩
      · have HNO := hideT (show ¬ OkT s k t from fun c => by obtain ⟨T1, h1, _⟩ := HO.out.1 c; injection h1 with _ h1; cases h1)
        have xl : (((T :: T2 :: L).length : Int) != 1) = true := by rw [bne_iff_ne]; simp only [List.length_cons]; omega
        clear HO own
        generalize (T :: T2 :: L).length = nl at xl ⊢
        go_wp2_with fail
        go_quiet (fail)
        go_wp2
        refine bodyPost_ret (v := .tuple #[.string (⟨#[]⟩), .int .i64 120]) (by rw [results_ttB rfl]; go_simp) rfl ?_
        exact ⟨_, _, rfl, HW.out.no HNO.out, hB.trans ⟨rfl, rfl, rfl, Nat.le_refl _, fun _ _ => rfl⟩⟩
    · have x0 : (er != 0) = true := by rw [bne_iff_ne]; exact h0
      have HNO := hideT (show ¬ OkT s k t from fun c => by obtain ⟨T1, _, h2, _⟩ := HO.out.1 c; exact h0 h2)
      clear HO own h0
      go_wp2_with fail
      go_quiet (fail)
      go_wp2
      refine bodyPost_ret (v := .tuple #[.string (⟨#[]⟩), .int .i64 120]) (by rw [results_ttB rfl]; go_simp) rfl ?_
      exact ⟨_, _, rfl, HW.out.no HNO.out, hB.trans ⟨rfl, rfl, rfl, Nat.le_refl _, fun _ _ => rfl⟩⟩
  · have x0 : (c2 != 0) = true := by rw [bne_iff_ne]; exact h0
    have HW := hideT (wr.bad h0)
    clear wr h0
    go_wp2
    refine bodyPost_ret (v := .tuple #[.string (⟨#[]⟩), .int .i64 c2]) (by rw [results_ttB rfl]; go_simp) rfl ?_
    exact ⟨_, _, rfl, HW.out, hB⟩

set_option maxHeartbeats 4000000 in
set_option maxRecDepth 100000 in
theorem prints_walk (k : Int) (t : ByteArray) (b e l c : Int) (w : World) (hs : t.size ≤ 1048576) (hM : MaxL w) (hmx : mxB < w.heap.size) : Calls Tryd.prog 3 #[.agg #[.int .i64 k, .string t, .int .i64 b, .int .i64 e, .int .i64 l, .int .i64 c]] w fun r w' => r = .returned (.bool true) ∧ Below w.heap.size w w' := by
  have hB := below_alloc (w := w) (.cells #[.int .i64 k, .string t, .int .i64 b, .int .i64 e, .int .i64 l, .int .i64 c] 23)
  have qT := Blk.new w #[.int .i64 k, .string t, .int .i64 b, .int .i64 e, .int .i64 l, .int .i64 c] 23
  have eW : (w.alloc (.cells #[.int .i64 k, .string t, .int .i64 b, .int .i64 e, .int .i64 l, .int .i64 c] 23)).heap.size = w.heap.size + 1 := by simp
  go_enter Tryd.func3, Tryd.ntmps3
  go_upto_region 1 with fail
  generalize w.alloc (.cells #[.int .i64 k, .string t, .int .i64 b, .int .i64 e, .int .i64 l, .int .i64 c] 23) = W at hB qT eW ⊢
  have t0 := qT.cell 0
  have t1 := qT.cell 1
  have t2 := qT.cell 2
  have t3 := qT.cell 3
  have t4 := qT.cell 4
  have t5 := qT.cell 5
  simp only [List.getElem?_toArray, List.getElem?_cons_zero, List.getElem?_cons_succ] at t0 t1 t2 t3 t4 t5
  have GA := hideT (print_is k t b e l c W hs (hM.on hB) (by rw [eW]; omega))
  have GB := hideT (fun W => rPrint_is k t b e l c W hs)
  go_wp2_with fail
  refine GA.out.mono ?_
  rintro e_ w1 ⟨s, c2, rfl, p1, b1⟩
  clear GA t0 t1 t2 t3 t4 t5
  replace qT := qT.later b1
  replace hB := hB.trans (b1.mono hB.size)
  clear b1
  have HP1 := hideT p1
  clear p1
  have t0 := qT.cell 0
  have t1 := qT.cell 1
  have t2 := qT.cell 2
  have t3 := qT.cell 3
  have t4 := qT.cell 4
  have t5 := qT.cell 5
  simp only [List.getElem?_toArray, List.getElem?_cons_zero, List.getElem?_cons_succ] at t0 t1 t2 t3 t4 t5
  go_wp2_with fail
  refine (GB.out _).mono ?_
  rintro e_ w2 ⟨s2, c3, rfl, p2, b2⟩
  clear GB t0 t1 t2 t3 t4 t5
  replace hB := hB.trans (b2.mono hB.size)
  clear b2
  obtain ⟨rfl, rfl⟩ := HP1.out.uniq p2
  clear p2 HP1
  go_wp2
  go_ret
  exact ⟨rfl, hB⟩

set_option maxHeartbeats 4000000 in
set_option maxRecDepth 100000 in
theorem back_walk (k : Int) (t : ByteArray) (b e l c : Int) (w : World) (hs : t.size ≤ 1048576) (hM : MaxL w) (hmx : mxB < w.heap.size) : Calls Tryd.prog 4 #[.agg #[.int .i64 k, .string t, .int .i64 b, .int .i64 e, .int .i64 l, .int .i64 c]] w fun r w' => r = .returned (.bool true) ∧ Below w.heap.size w w' := by
  have hB := below_alloc (w := w) (.cells #[.int .i64 k, .string t, .int .i64 b, .int .i64 e, .int .i64 l, .int .i64 c] 23)
  have qT := Blk.new w #[.int .i64 k, .string t, .int .i64 b, .int .i64 e, .int .i64 l, .int .i64 c] 23
  have eW : (w.alloc (.cells #[.int .i64 k, .string t, .int .i64 b, .int .i64 e, .int .i64 l, .int .i64 c] 23)).heap.size = w.heap.size + 1 := by simp
  go_enter Tryd.func4, Tryd.ntmps4
  go_upto_region 1 with fail
  generalize w.alloc (.cells #[.int .i64 k, .string t, .int .i64 b, .int .i64 e, .int .i64 l, .int .i64 c] 23) = W at hB qT eW ⊢
  have t0 := qT.cell 0
  have t1 := qT.cell 1
  have t2 := qT.cell 2
  have t3 := qT.cell 3
  have t4 := qT.cell 4
  have t5 := qT.cell 5
  simp only [List.getElem?_toArray, List.getElem?_cons_zero, List.getElem?_cons_succ] at t0 t1 t2 t3 t4 t5
  have hMW := hM.on hB
  have GA := hideT (print_is k t b e l c W hs hMW (by rw [eW]; omega))
  go_wp2_with fail
  refine GA.out.mono ?_
  rintro e_ w1 ⟨s, c2, rfl, p1, b1⟩
  clear GA t0 t1 t2 t3 t4 t5
  have hM1 := hMW.on b1
  have hz1 : mxB < w1.heap.size := by have := b1.size; omega
  replace qT := qT.later b1
  replace hB := hB.trans (b1.mono hB.size)
  clear b1 hMW eW
  by_cases h0 : c2 = 0
  · subst h0
    have hsz := p1.size
    obtain ⟨T, o1, o2, o3, o4, o5, o6⟩ := p1.one
    have GL := hideT (all_is s w1 (by omega) hM1 hz1)
    change Hid (Calls _ _ _ _ fun e w' => ∃ (v : Value) (z2 z3 z4 z5 : Int), e = .returned (.tuple #[v, .int .i64 (allP (lsB s)).2, _]) ∧ w'.ownsRow w1.heap.size _ 6 v (allP (lsB s)).1.length (tokCells (allP (lsB s)).1) ∧ _ ∧ _) at GL
    rw [o1, o2] at GL
    clear p1 o1 o2 hM1 hz1
    go_wp2_with fail
    refine GL.out.mono ?_
    rintro e_ w2 ⟨v, z2, z3, z4, z5, rfl, own, b2, _⟩
    clear GL
    have b3 := below_alloc (w := w2) (.cells #[.int .i64 0, .string ⟨#[]⟩, .int .i64 z2, .int .i64 z3, .int .i64 z4, .int .i64 z5] 23)
    have bb := b2.trans (b3.mono b2.size)
    replace own := own_kp own (Kp.of (X := fun _ => False) b3) (fun _ _ c => c)
    replace qT := qT.later bb
    replace hB := hB.trans (bb.mono hB.size)
    clear b2 b3 bb
    have t0 := qT.cell 0
    have t1 := qT.cell 1
    simp only [List.getElem?_toArray, List.getElem?_cons_zero, List.getElem?_cons_succ] at t0 t1
    rcases own.2 with ⟨_, h0⟩ | ⟨g, p1, r1, hv1, _⟩
    · exact absurd h0 (by simp)
    subst hv1
    have z0_ := own_tok own 0 0 (by simp) (by decide)
    have z1_ := own_tok own 0 1 (by simp) (by decide)
    have z2_ := own_tok own 0 2 (by simp) (by decide)
    have z3_ := own_tok own 0 3 (by simp) (by decide)
    simp only [List.getElem_cons_zero, Tok.cells, List.getElem?_cons_zero, List.getElem?_cons_succ, Nat.zero_mul, Nat.zero_add] at z0_ z1_ z2_ z3_
    clear own
    rw [o3] at z0_
    rw [o4] at z1_
    rw [o5] at z2_
    rw [o6] at z3_
    clear o3 o4 o5 o6
    go_wp2_with fail
    go_quiet (fail)
    go_wp2
    go_ret
    exact ⟨rfl, hB.trans ⟨rfl, rfl, rfl, Nat.le_refl _, fun _ _ => rfl⟩⟩
  · have x0 : (c2 != 0) = true := by rw [bne_iff_ne]; exact h0
    have e0 := p1.err h0
    subst e0
    have GW := hideT (awake_is w1 hM1 hz1)
    clear p1 h0
    unfold empS
    go_wp2_with fail
    refine GW.out.mono ?_
    rintro e_ w2 ⟨rfl, b2⟩
    go_wp2
    go_ret
    exact ⟨rfl, hB.trans (b2.mono hB.size)⟩

end Go.Proofs.YtmgecifbimhjkaaDoor
