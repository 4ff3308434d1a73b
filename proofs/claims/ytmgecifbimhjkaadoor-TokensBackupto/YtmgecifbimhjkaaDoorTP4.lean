/-
  The reference's written.
-/
import Derived.Test.YtmgecifbimhjkaaDoorTP3
import Derived.Test.YtmgecifbimhjkaaDoorTR8
namespace Go.Proofs.YtmgecifbimhjkaaDoor
open Go.RowKit
set_option linter.unusedVariables false
set_option linter.unusedSimpArgs false

/-- what written answers -/
def WrR (k : Int) (t s : ByteArray) (c : Int) : Prop := ((k = 3 ∨ k = 4 ∨ k = 9) → PrR k t s c) ∧ ((k = 1 ∨ k = 2 ∨ k = 5 ∨ k = 6 ∨ k = 7 ∨ k = 8) → s = hdk k ++ t ∧ c = 0) ∧ (¬ (1 ≤ k ∧ k ≤ 9) → c = 120)
theorem WrR.pr {k : Int} {t s : ByteArray} {c : Int} (hk : k = 3 ∨ k = 4 ∨ k = 9) (h : PrR k t s c) : WrR k t s c := ⟨fun _ => h, fun e => by omega, fun e => by omega⟩
theorem emp_app (t : ByteArray) : (⟨#[]⟩ : ByteArray) ++ t = t := by
  apply ByteArray.ext
  rw [ByteArray.data_append]
  simp
theorem WrR.pl {k : Int} {t : ByteArray} (hk : k = 1 ∨ k = 2 ∨ k = 5 ∨ k = 6) : WrR k t t 0 := by
  refine ⟨fun e => by omega, fun e => ⟨?_, rfl⟩, fun e => by omega⟩
  unfold hdk
  rw [if_neg (by omega), if_neg (by omega), emp_app]
theorem take_on {l : List UInt8} {k : Nat} (h : k < l.length) : l.take (k + 1) = l.take k ++ [l[k]] := by
  rw [List.take_add_one, List.getElem?_eq_getElem h]
  rfl
theorem own_byte {w : World} {base : Nat} {u : UInt8} (hb : base ≤ w.heap.size) : (w.alloc (.cells #[.int .u8 u.toNat] 5)).ownsRow base 5 1 (.slice (some ⟨w.heap.size, 0, none⟩) 1 1) [u].length (Lib.byteCells [u]) :=
  ⟨rfl, Or.inr ⟨w.heap.size, 1, _, rfl, hb, heap_alloc_new w _, Nat.le_refl _, by simp only [maxLen]; omega, rfl, rfl⟩⟩
set_option maxHeartbeats 8000000 in
set_option maxRecDepth 100000 in
theorem written_is (k : Int) (t : ByteArray) (b e l c : Int) (w : World) (hs : t.size ≤ 1048576) : Calls Tryd.prog 23 #[.agg #[.int .i64 k, .string t, .int .i64 b, .int .i64 e, .int .i64 l, .int .i64 c]] w fun r w' => ∃ s c', r = .returned (.tuple #[.string s, .int .i64 c']) ∧ WrR k t s c' ∧ Below w.heap.size w w' := by
  have hB := below_alloc (w := w) (.cells #[.int .i64 k, .string t, .int .i64 b, .int .i64 e, .int .i64 l, .int .i64 c] 23)
  have qT := Blk.new w #[.int .i64 k, .string t, .int .i64 b, .int .i64 e, .int .i64 l, .int .i64 c] 23
  have eW : (w.alloc (.cells #[.int .i64 k, .string t, .int .i64 b, .int .i64 e, .int .i64 l, .int .i64 c] 23)).heap.size = w.heap.size + 1 := by simp
  obtain ⟨p, hp⟩ := bool_of (isPl t)
  obtain ⟨n, hn⟩ := bool_of (hasB nbN t)
  have HP := hideT hp
  have HN := hideT hn
  have G3 := hideT (fun W => rSymbol_is t (by omega) p n hp hn W)
  have G4 := hideT (fun W => rPlain_is t (by omega) p hp W)
  clear hp hn
  go_enter Tryd.func23, Tryd.ntmps23
  go_upto_region 1 with fail
  generalize w.alloc (.cells #[.int .i64 k, .string t, .int .i64 b, .int .i64 e, .int .i64 l, .int .i64 c] 23) = W at hB qT eW ⊢
  have t0 := qT.cell 0
  have t1 := qT.cell 1
  simp only [List.getElem?_toArray, List.getElem?_cons_zero, List.getElem?_cons_succ] at t0 t1
  by_cases k3 : k = 3
  · subst k3
    cases p
    · cases n
      · skip
        go_wp2_with fail
        refine (G3.out _).mono ?_
        unfold symA
        rintro e_ w1 ⟨rfl, hw1⟩
        rw [hw1]
        clear hw1 w1
        go_wp2
        refine bodyPost_ret (v := .tuple #[.string (barS t), .int .i64 0]) (by rw [results_ttB rfl]; go_simp) rfl ?_
        exact ⟨_, _, rfl, .pr (Or.inl rfl) (.sy ⟨fun c => absurd (HP.out.2 c) (by decide), fun _ c => absurd (HN.out.2 c) (by decide), fun _ _ => ⟨rfl, rfl⟩⟩), hB⟩
      · skip
        go_wp2_with fail
        refine (G3.out _).mono ?_
        unfold symA
        rintro e_ w1 ⟨rfl, hw1⟩
        rw [hw1]
        clear hw1 w1
        go_wp2
        refine bodyPost_ret (v := .tuple #[.string (⟨#[]⟩), .int .i64 122]) (by rw [results_ttB rfl]; go_simp) rfl ?_
        exact ⟨_, _, rfl, .pr (Or.inl rfl) (.sy ⟨fun c => absurd (HP.out.2 c) (by decide), fun _ _ => ⟨rfl, rfl⟩, fun _ c => absurd (HN.out.1 (by simp)) c⟩), hB⟩
    · skip
      go_wp2_with fail
      refine (G3.out _).mono ?_
      unfold symA
      rintro e_ w1 ⟨rfl, hw1⟩
      rw [hw1]
      clear hw1 w1
      go_wp2
      refine bodyPost_ret (v := .tuple #[.string (t), .int .i64 0]) (by rw [results_ttB rfl]; go_simp) rfl ?_
      exact ⟨_, _, rfl, .pr (Or.inl rfl) (.sy ⟨fun _ => ⟨rfl, rfl⟩, fun c => absurd (HP.out.1 (by simp)) c, fun c => absurd (HP.out.1 (by simp)) c⟩), hB⟩
  have x3 : (k == 3) = false := by rw [beq_eq_false_iff_ne]; exact k3
  by_cases k4 : k = 4
  · subst k4
    clear k3 x3
    cases p
    · skip
      go_wp2_with fail
      refine (G4.out _).mono ?_
      rintro e_ w1 ⟨rfl, hw1⟩
      rw [hw1]
      clear hw1 w1
      go_wp2
      refine bodyPost_ret (v := .tuple #[.string (⟨#[]⟩), .int .i64 122]) (by rw [results_ttB rfl]; go_simp) rfl ?_
      exact ⟨_, _, rfl, .pr (Or.inr (Or.inl rfl)) (.ke ⟨fun c => absurd (HP.out.2 c) (by decide), fun _ => ⟨rfl, rfl⟩⟩), hB⟩
    · skip
      go_wp2_with fail
      refine (G4.out _).mono ?_
      rintro e_ w1 ⟨rfl, hw1⟩
      rw [hw1]
      clear hw1 w1
      go_wp2
      refine bodyPost_ret (v := .tuple #[.string (⟨#[58]⟩ ++ t), .int .i64 0]) (by rw [results_ttB rfl]; go_simp) rfl ?_
      exact ⟨_, _, rfl, .pr (Or.inr (Or.inl rfl)) (.ke ⟨fun _ => ⟨rfl, rfl⟩, fun c => absurd (HP.out.1 (by simp)) c⟩), hB⟩
  have x4 : (k == 4) = false := by rw [beq_eq_false_iff_ne]; exact k4
  by_cases k9 : k = 9
  · subst k9
    clear k3 x3 k4 x4 G3 G4 HP HN p n
    obtain ⟨wy, hwy⟩ : ∃ wy, W.alloc (.cells #[.int .u8 34] 5) = wy := ⟨_, rfl⟩
    have bY := below_alloc (w := W) (.cells #[.int .u8 34] 5)
    have ownY := own_byte (w := W) (base := w.heap.size + 1) (u := 34) (by rw [eW]; omega)
    change (W.alloc (.cells #[.int .u8 34] 5)).ownsRow _ _ _ _ _ _ at ownY
    rw [hwy] at bY ownY
    rw [eW] at ownY
    have qY := qT.later bY
    have hBY := hB.trans (bY.mono hB.size)
    have hwzY : w.heap.size + 1 ≤ wy.heap.size := by have := bY.size; omega
    go_wp2_with fail
    try rw [hwy]
    go_loopw [4, 5] (fun v i wr => ∃ (k2 : Nat) (l2 : List UInt8), k2 ≤ t.size ∧ l2 = 34 :: dbl ((lsB t).take k2) ∧ l2.length ≤ 2 * k2 + 1 ∧ i = .int .i64 k2 ∧ wr.ownsRow (w.heap.size + 1) 5 1 v l2.length (Lib.byteCells l2) ∧ Blk wr w.heap.size #[.int .i64 9, .string t, .int .i64 b, .int .i64 e, .int .i64 l, .int .i64 c] 23 ∧ Below w.heap.size w wr ∧ w.heap.size + 1 ≤ wr.heap.size ∧ ∀ j, j < k2 → nqN (byt t j) = false) (fun v i wr => t.size - (intOf i).toNat)
    case atStart => exact ⟨0, [34], Nat.zero_le _, rfl, Nat.le_refl _, rfl, ownY, qY, hBY, hwzY, fun j hj => absurd hj (by omega)⟩
    case round =>
      clear ownY qY hBY hwzY bY hwy wy qT hB t0 t1 eW
      obtain ⟨k2, l2, hk2, hl2, hll, rfl, own, qT, hB, hwz, hnq⟩ := hrel
      have HL2 := hideT hl2
      have HNQ := hideT hnq
      clear hl2 hnq
      obtain ⟨a0, cp, ev⟩ := own_sl own
      subst ev
      have t1 := qT.cell 1
      simp only [List.getElem?_toArray, List.getElem?_cons_zero, List.getElem?_cons_succ] at t1
      by_cases hlt : k2 < t.size
      · have hki : ((k2 : Int) < (t.size : Int)) := by omega
        have hb := byt_of hlt
        have hkl : k2 < (lsB t).length := by rw [lsB_len]; exact hlt
        have hu : (lsB t)[k2]'hkl = t[k2]'hlt := S_at rfl hkl hlt
        have htk := take_on hkl
        rw [hu] at htk
        have GQ := hideT (fun W => quotable_is (byt t k2) W)
        rw [quN_not] at GQ
        rcases hf : nqN (byt t k2) with _ | _
        · rw [hf, hb] at GQ
          have HNX : Hid (∀ j, j < k2 + 1 → nqN (byt t j) = false) := hideT (fun j hj => by
            by_cases ej : j = k2
            · rw [ej]; exact hf
            · exact HNQ.out j (by omega))
          by_cases h34 : byt t k2 = 34
          · have x34 : (((t[k2]'hlt).toNat : Int) == 34) = true := by rw [← hb, h34]; rfl
            have eu : t[k2]'hlt = 34 := u8_of (by rw [← hb]; exact h34) (by decide)
            have HLX := hideT (show l2 ++ [t[k2]'hlt] ++ [34] = 34 :: dbl ((lsB t).take (k2 + 1)) by rw [htk, dbl_app, HL2.out, eu]; simp [dbl])
            clear eu
            clear hf h34 hb htk hu hkl HNQ HL2
            go_wp2_with fail
            refine (GQ.out _).mono ?_
            rintro e_ w1 ⟨rfl, hw1⟩
            rw [hw1]
            clear hw1 w1 GQ
            obtain ⟨wx, hwx⟩ : ∃ wx, wr.alloc (.cells #[.int .u8 (t[k2]'hlt).toNat] 5) = wx := ⟨_, rfl⟩
            have hnew := heap_alloc_new wr (.cells #[.int .u8 (t[k2]'hlt).toNat] 5)
            have b3 := below_alloc (w := wr) (.cells #[.int .u8 (t[k2]'hlt).toNat] 5)
            rw [hwx] at hnew b3
            have own2 := own_kp own (Kp.of (X := fun _ => False) b3) (fun _ _ c => c)
            have hk3 : l2.length + 1 ≤ maxLen := by simp only [maxLen, List.length_append, List.length_cons, List.length_nil]; omega
            have hbl2 : (l2.length + 1) * 1 ≤ 140737488355328 := by first | omega | (simp only [List.length_append, List.length_cons, List.length_nil]; omega)
            have hbB : w.heap.size + 1 ≤ wx.heap.size := Nat.le_trans hwz b3.size
            obtain ⟨i0, hi0, hz0, hz1, hz2⟩ := info_parts info_u8
            go_wp2_with (at_builtin; (try rw [hwx]); (refine wpList_append_lies _ (by rfl) _ _ _ (by rfl) (w.heap.size + 1) 5 i0 _ 1 1 Tryd.underlying49 hi0 hz0 hz1 hz2 rfl (by omega) (.slice a0 l2.length cp) (l2.length) (Lib.byteCells (l2)) (by rfl) own2 ⟨wr.heap.size, 0, none⟩ 1 1 [.int .u8 (t[k2]'hlt).toNat] (by rfl) (by rfl) (World.news_of_block (cs := #[.int .u8 (t[k2]'hlt).toNat]) (t := 5) (fr := (0, 0)) hnew) (by simp [Value.oneCell']) (by omega) hk3 hbl2 hbB wx.heap.size rfl ?_))
            intro gbwd capwd wd hown4 hgrow hat hlt4
            have kg := Kp.grown hgrow (fun k e => e)
            have hvb := fun g (hg : _ = some g) => own_lt own2 (g := g) hg
            replace qT := kg.blk (qT.later b3) (fun c => by have := (hvb _ c).1; omega)
            replace hB := (hB.trans (b3.mono hB.size)).trans (kg.below (Nat.le_trans hB.size b3.size) (fun k hk c => by have := (hvb _ c).1; omega))
            replace hwz : w.heap.size + 1 ≤ wd.heap.size := Nat.le_trans hbB kg.size
            have own3 : wd.ownsRow (w.heap.size + 1) 5 1 (.slice (some ⟨gbwd, 0, none⟩) (l2.length + 1) capwd) (l2.length + 1) (Lib.byteCells (l2 ++ [t[k2]'hlt])) := by rw [Lib.byteCells_append]; exact hown4
            clear kg hvb hown4 hgrow hat own2 own hk3 hbl2 hbB hnew b3 hwx hi0 hz0 hz1 hz2 hlt4 t1
            have t1 := qT.cell 1
            simp only [List.getElem?_toArray, List.getElem?_cons_zero, List.getElem?_cons_succ] at t1
            obtain ⟨wx, hwx⟩ : ∃ wx, wd.alloc (.cells #[.int .u8 34] 5) = wx := ⟨_, rfl⟩
            have hnew := heap_alloc_new wd (.cells #[.int .u8 34] 5)
            have b3 := below_alloc (w := wd) (.cells #[.int .u8 34] 5)
            rw [hwx] at hnew b3
            have own2 := own_kp own3 (Kp.of (X := fun _ => False) b3) (fun _ _ c => c)
            have hk3 : (l2.length + 1) + 1 ≤ maxLen := by simp only [maxLen, List.length_append, List.length_cons, List.length_nil]; omega
            have hbl2 : ((l2.length + 1) + 1) * 1 ≤ 140737488355328 := by first | omega | (simp only [List.length_append, List.length_cons, List.length_nil]; omega)
            have hbB : w.heap.size + 1 ≤ wx.heap.size := Nat.le_trans hwz b3.size
            obtain ⟨i0, hi0, hz0, hz1, hz2⟩ := info_parts info_u8
            go_wp2_with (at_builtin; (try rw [hwx]); (refine wpList_append_lies _ (by rfl) _ _ _ (by rfl) (w.heap.size + 1) 5 i0 _ 1 1 Tryd.underlying49 hi0 hz0 hz1 hz2 rfl (by omega) (.slice (some ⟨gbwd, 0, none⟩) (l2.length + 1) capwd) ((l2.length + 1)) (Lib.byteCells ((l2 ++ [t[k2]'hlt]))) (by rfl) own2 ⟨wd.heap.size, 0, none⟩ 1 1 [.int .u8 34] (by rfl) (by rfl) (World.news_of_block (cs := #[.int .u8 34]) (t := 5) (fr := (0, 0)) hnew) (by simp [Value.oneCell']) (by omega) hk3 hbl2 hbB wx.heap.size rfl ?_))
            intro gbwe capwe we hown4 hgrow hat hlt4
            have kg := Kp.grown hgrow (fun k e => e)
            have hvb := fun g (hg : _ = some g) => own_lt own2 (g := g) hg
            replace qT := kg.blk (qT.later b3) (fun c => by have := (hvb _ c).1; omega)
            replace hB := (hB.trans (b3.mono hB.size)).trans (kg.below (Nat.le_trans hB.size b3.size) (fun k hk c => by have := (hvb _ c).1; omega))
            replace hwz : w.heap.size + 1 ≤ we.heap.size := Nat.le_trans hbB kg.size
            have own5 : we.ownsRow (w.heap.size + 1) 5 1 (.slice (some ⟨gbwe, 0, none⟩) ((l2.length + 1) + 1) capwe) ((l2.length + 1) + 1) (Lib.byteCells ((l2 ++ [t[k2]'hlt]) ++ [34])) := by rw [Lib.byteCells_append]; exact hown4
            clear kg hvb hown4 hgrow hat own2 own3 hk3 hbl2 hbB hnew b3 hwx hi0 hz0 hz1 hz2 hlt4 t1
            have t1 := qT.cell 1
            simp only [List.getElem?_toArray, List.getElem?_cons_zero, List.getElem?_cons_succ] at t1
            go_wp2
            go_roundw
            case rel => exact ⟨k2 + 1, l2 ++ [t[k2]'hlt] ++ [34], by omega, HLX.out, by simp only [List.length_append, List.length_cons, List.length_nil]; omega, by go_num, by rw [show (l2 ++ [t[k2]'hlt] ++ ([34] : List UInt8)).length = l2.length + 1 + 1 by simp only [List.length_append, List.length_cons, List.length_nil]]; exact own5, qT, hB, hwz, HNX.out⟩
            case measure => simp [intOf]; omega
          · have x34 : (((t[k2]'hlt).toNat : Int) == 34) = false := by rw [← hb, beq_eq_false_iff_ne]; omega
            have eu : t[k2]'hlt ≠ 34 := fun c => h34 (by rw [hb, c]; rfl)
            have HLX := hideT (show l2 ++ [t[k2]'hlt] = 34 :: dbl ((lsB t).take (k2 + 1)) by rw [htk, dbl_app, HL2.out]; simp [dbl, eu])
            clear eu
            clear hf h34 hb htk hu hkl HNQ HL2
            go_wp2_with fail
            refine (GQ.out _).mono ?_
            rintro e_ w1 ⟨rfl, hw1⟩
            rw [hw1]
            clear hw1 w1 GQ
            obtain ⟨wx, hwx⟩ : ∃ wx, wr.alloc (.cells #[.int .u8 (t[k2]'hlt).toNat] 5) = wx := ⟨_, rfl⟩
            have hnew := heap_alloc_new wr (.cells #[.int .u8 (t[k2]'hlt).toNat] 5)
            have b3 := below_alloc (w := wr) (.cells #[.int .u8 (t[k2]'hlt).toNat] 5)
            rw [hwx] at hnew b3
            have own2 := own_kp own (Kp.of (X := fun _ => False) b3) (fun _ _ c => c)
            have hk3 : l2.length + 1 ≤ maxLen := by simp only [maxLen, List.length_append, List.length_cons, List.length_nil]; omega
            have hbl2 : (l2.length + 1) * 1 ≤ 140737488355328 := by first | omega | (simp only [List.length_append, List.length_cons, List.length_nil]; omega)
            have hbB : w.heap.size + 1 ≤ wx.heap.size := Nat.le_trans hwz b3.size
            obtain ⟨i0, hi0, hz0, hz1, hz2⟩ := info_parts info_u8
            go_wp2_with (at_builtin; (try rw [hwx]); (refine wpList_append_lies _ (by rfl) _ _ _ (by rfl) (w.heap.size + 1) 5 i0 _ 1 1 Tryd.underlying49 hi0 hz0 hz1 hz2 rfl (by omega) (.slice a0 l2.length cp) (l2.length) (Lib.byteCells (l2)) (by rfl) own2 ⟨wr.heap.size, 0, none⟩ 1 1 [.int .u8 (t[k2]'hlt).toNat] (by rfl) (by rfl) (World.news_of_block (cs := #[.int .u8 (t[k2]'hlt).toNat]) (t := 5) (fr := (0, 0)) hnew) (by simp [Value.oneCell']) (by omega) hk3 hbl2 hbB wx.heap.size rfl ?_))
            intro gbwd capwd wd hown4 hgrow hat hlt4
            have kg := Kp.grown hgrow (fun k e => e)
            have hvb := fun g (hg : _ = some g) => own_lt own2 (g := g) hg
            replace qT := kg.blk (qT.later b3) (fun c => by have := (hvb _ c).1; omega)
            replace hB := (hB.trans (b3.mono hB.size)).trans (kg.below (Nat.le_trans hB.size b3.size) (fun k hk c => by have := (hvb _ c).1; omega))
            replace hwz : w.heap.size + 1 ≤ wd.heap.size := Nat.le_trans hbB kg.size
            have own3 : wd.ownsRow (w.heap.size + 1) 5 1 (.slice (some ⟨gbwd, 0, none⟩) (l2.length + 1) capwd) (l2.length + 1) (Lib.byteCells (l2 ++ [t[k2]'hlt])) := by rw [Lib.byteCells_append]; exact hown4
            clear kg hvb hown4 hgrow hat own2 own hk3 hbl2 hbB hnew b3 hwx hi0 hz0 hz1 hz2 hlt4 t1
            have t1 := qT.cell 1
            simp only [List.getElem?_toArray, List.getElem?_cons_zero, List.getElem?_cons_succ] at t1
            go_wp2
            go_roundw
            case rel => exact ⟨k2 + 1, l2 ++ [t[k2]'hlt], by omega, HLX.out, by simp only [List.length_append, List.length_cons, List.length_nil]; omega, by go_num, by rw [show (l2 ++ [t[k2]'hlt]).length = l2.length + 1 by simp only [List.length_append, List.length_cons, List.length_nil]]; exact own3, qT, hB, hwz, HNX.out⟩
            case measure => simp [intOf]; omega
        · have HNO := hideT (show hasB nqN t from ⟨k2, hlt, hf⟩)
          rw [hf, hb] at GQ
          clear hf hb htk hu hkl HNQ HL2 own
          go_wp2_with fail
          refine (GQ.out _).mono ?_
          rintro e_ w1 ⟨rfl, hw1⟩
          rw [hw1]
          clear hw1 w1 GQ
          go_wp2
          refine bodyPost_ret (v := .tuple #[.string (⟨#[]⟩), .int .i64 122]) (by rw [results_ttB rfl]; go_simp) rfl ?_
          exact ⟨_, _, rfl, .pr (Or.inr (Or.inr rfl)) (.st ⟨fun _ => ⟨rfl, rfl⟩, fun c => absurd HNO.out c⟩), hB⟩
      · have hki : ¬ ((k2 : Int) < (t.size : Int)) := by omega
        have ek : k2 = t.size := by omega
        have HQS := hideT (show (⟨(l2 ++ [34]).toArray⟩ : ByteArray) = quoS t by unfold quoS; rw [HL2.out, ek, ← lsB_len, List.take_length]; rfl)
        have HNO := hideT (show ¬ hasB nqN t from fun ⟨j, hj, hc⟩ => by rw [HNQ.out j (by omega)] at hc; exact absurd hc (by decide))
        clear ek HL2 HNQ
        obtain ⟨wx, hwx⟩ : ∃ wx, wr.alloc (.cells #[.int .u8 34] 5) = wx := ⟨_, rfl⟩
        have hnew := heap_alloc_new wr (.cells #[.int .u8 34] 5)
        have b3 := below_alloc (w := wr) (.cells #[.int .u8 34] 5)
        rw [hwx] at hnew b3
        have own2 := own_kp own (Kp.of (X := fun _ => False) b3) (fun _ _ c => c)
        have hk3 : l2.length + 1 ≤ maxLen := by simp only [maxLen, List.length_append, List.length_cons, List.length_nil]; omega
        have hbl2 : (l2.length + 1) * 1 ≤ 140737488355328 := by first | omega | (simp only [List.length_append, List.length_cons, List.length_nil]; omega)
        have hbB : w.heap.size + 1 ≤ wx.heap.size := Nat.le_trans hwz b3.size
        obtain ⟨i0, hi0, hz0, hz1, hz2⟩ := info_parts info_u8
        go_wp2_with (at_builtin; (try rw [hwx]); (refine wpList_append_lies _ (by rfl) _ _ _ (by rfl) (w.heap.size + 1) 5 i0 _ 1 1 Tryd.underlying49 hi0 hz0 hz1 hz2 rfl (by omega) (.slice a0 l2.length cp) (l2.length) (Lib.byteCells (l2)) (by rfl) own2 ⟨wr.heap.size, 0, none⟩ 1 1 [.int .u8 34] (by rfl) (by rfl) (World.news_of_block (cs := #[.int .u8 34]) (t := 5) (fr := (0, 0)) hnew) (by simp [Value.oneCell']) (by omega) hk3 hbl2 hbB wx.heap.size rfl ?_))
        intro gbwd capwd wd hown4 hgrow hat hlt4
        have kg := Kp.grown hgrow (fun k e => e)
        have hvb := fun g (hg : _ = some g) => own_lt own2 (g := g) hg
        replace qT := kg.blk (qT.later b3) (fun c => by have := (hvb _ c).1; omega)
        replace hB := (hB.trans (b3.mono hB.size)).trans (kg.below (Nat.le_trans hB.size b3.size) (fun k hk c => by have := (hvb _ c).1; omega))
        replace hwz : w.heap.size + 1 ≤ wd.heap.size := Nat.le_trans hbB kg.size
        have own3 : wd.ownsRow (w.heap.size + 1) 5 1 (.slice (some ⟨gbwd, 0, none⟩) (l2.length + 1) capwd) (l2.length + 1) (Lib.byteCells (l2 ++ [34])) := by rw [Lib.byteCells_append]; exact hown4
        clear kg hvb hown4 hgrow hat own2 own hk3 hbl2 hbB hnew b3 hwx hi0 hz0 hz1 hz2 hlt4 t1
        have t1 := qT.cell 1
        simp only [List.getElem?_toArray, List.getElem?_cons_zero, List.getElem?_cons_succ] at t1
        have hcs := own_str_any (P := Tryd.prog) own3 Tryd.underlying49 Tryd.underlying5 Tryd.underlying9
        clear own3
        go_wp2
        refine bodyPost_ret (v := .tuple #[.string (⟨(l2 ++ [34]).toArray⟩), .int .i64 0]) (by rw [results_ttB rfl]; go_simp) rfl ?_
        exact ⟨_, _, rfl, .pr (Or.inr (Or.inr rfl)) (.st ⟨fun c => absurd c HNO.out, fun _ => ⟨HQS.out, rfl⟩⟩), hB⟩
  have x9 : (k == 9) = false := by rw [beq_eq_false_iff_ne]; exact k9
  by_cases k1 : k = 1
  · have x1 : (k == 1) = true := by rw [k1]; rfl
    have HW := hideT (WrR.pl (k := k) (t := t) (by omega))
    clear k3 k4 k9 k1
    go_wp2
    refine bodyPost_ret (v := .tuple #[.string (t), .int .i64 0]) (by rw [results_ttB rfl]; go_simp) rfl ?_
    exact ⟨_, _, rfl, HW.out, hB⟩
  have x1 : (k == 1) = false := by rw [beq_eq_false_iff_ne]; exact k1
  by_cases k2 : k = 2
  · have x2 : (k == 2) = true := by rw [k2]; rfl
    have HW := hideT (WrR.pl (k := k) (t := t) (by omega))
    clear k3 k4 k9 k1 k2
    go_wp2
    refine bodyPost_ret (v := .tuple #[.string (t), .int .i64 0]) (by rw [results_ttB rfl]; go_simp) rfl ?_
    exact ⟨_, _, rfl, HW.out, hB⟩
  have x2 : (k == 2) = false := by rw [beq_eq_false_iff_ne]; exact k2
  by_cases k5 : k = 5
  · have x5 : (k == 5) = true := by rw [k5]; rfl
    have HW := hideT (WrR.pl (k := k) (t := t) (by omega))
    clear k3 k4 k9 k1 k2 k5
    go_wp2
    refine bodyPost_ret (v := .tuple #[.string (t), .int .i64 0]) (by rw [results_ttB rfl]; go_simp) rfl ?_
    exact ⟨_, _, rfl, HW.out, hB⟩
  have x5 : (k == 5) = false := by rw [beq_eq_false_iff_ne]; exact k5
  by_cases k6 : k = 6
  · have x6 : (k == 6) = true := by rw [k6]; rfl
    have HW := hideT (WrR.pl (k := k) (t := t) (by omega))
    clear k3 k4 k9 k1 k2 k5 k6
    go_wp2
    refine bodyPost_ret (v := .tuple #[.string (t), .int .i64 0]) (by rw [results_ttB rfl]; go_simp) rfl ?_
    exact ⟨_, _, rfl, HW.out, hB⟩
  have x6 : (k == 6) = false := by rw [beq_eq_false_iff_ne]; exact k6
  by_cases k7 : k = 7
  · have x7 : (k == 7) = true := by rw [k7]; rfl
    have HW := hideT (show WrR k t (⟨#[35, 120]⟩ ++ t) 0 from ⟨fun e => by omega, fun _ => ⟨by unfold hdk; rw [if_pos k7], rfl⟩, fun e => by omega⟩)
    clear k3 k4 k9 k1 k2 k5 k6 k7
    go_wp2
    refine bodyPost_ret (v := .tuple #[.string (⟨#[35, 120]⟩ ++ t), .int .i64 0]) (by rw [results_ttB rfl]; go_simp) rfl ?_
    exact ⟨_, _, rfl, HW.out, hB⟩
  have x7 : (k == 7) = false := by rw [beq_eq_false_iff_ne]; exact k7
  by_cases k8 : k = 8
  · have x8 : (k == 8) = true := by rw [k8]; rfl
    have HW := hideT (show WrR k t (⟨#[35, 98]⟩ ++ t) 0 from ⟨fun e => by omega, fun _ => ⟨by unfold hdk; rw [if_neg k7, if_pos k8], rfl⟩, fun e => by omega⟩)
    clear k3 k4 k9 k1 k2 k5 k6 k7 k8
    go_wp2
    refine bodyPost_ret (v := .tuple #[.string (⟨#[35, 98]⟩ ++ t), .int .i64 0]) (by rw [results_ttB rfl]; go_simp) rfl ?_
    exact ⟨_, _, rfl, HW.out, hB⟩
  have x8 : (k == 8) = false := by rw [beq_eq_false_iff_ne]; exact k8
  have HW := hideT (show WrR k t ⟨#[]⟩ 120 from ⟨fun e => by omega, fun e => by omega, fun _ => rfl⟩)
  clear k3 k4 k9 k1 k2 k5 k6 k7 k8
  go_wp2
  refine bodyPost_ret (v := .tuple #[.string (⟨#[]⟩), .int .i64 120]) (by rw [results_ttB rfl]; go_simp) rfl ?_
  exact ⟨_, _, rfl, HW.out, hB⟩

end Go.Proofs.YtmgecifbimhjkaaDoor
