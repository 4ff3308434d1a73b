/-
  The reference's Print; TokensPrints and TokensBack: the walks.
-/
import Derived.Test.YtpfmamimhhnbiaaGreatDoorTP3
import Derived.Test.YtpfmamimhhnbiaaGreatDoorTR8
import Derived.Test.YtpfmamimhhnbiaaGreatDoorTRB
import Derived.Test.YtpfmamimhhnbiaaGreatDoorTR9
import Derived.Test.YtpfmamimhhnbiaaGreatDoorTS9
import Derived.Test.YtpfmamimhhnbiaaGreatDoorTP6
namespace Go.Proofs.YtpfmamimhhnbiaaGreatDoor
open Go.RowKit
set_option linter.unusedVariables false
set_option linter.unusedSimpArgs false

/-- what written answers -/
def WrR (k : Int) (t s : ByteArray) (c : Int) : Prop := ((k = 3 ∨ k = 4 ∨ k = 9) → PrR k t s c) ∧ ((k = 1 ∨ k = 2 ∨ k = 5 ∨ k = 6 ∨ k = 7 ∨ k = 8) → s = hdk k ++ t ∧ c = 0) ∧ (¬ (1 ≤ k ∧ k ≤ 9) → c = 120)
theorem WrR.pr {k : Int} {t s : ByteArray} {c : Int} (hk : k = 3 ∨ k = 4 ∨ k = 9) (h : PrR k t s c) : WrR k t s c := ⟨fun _ => h, fun e => by omega, fun e => by omega⟩
theorem emp_app (t : ByteArray) : (⟨#[]⟩ : ByteArray) ++ t = t := by
  apply ByteArray.ext
  rw [ByteArray.data_append]
  simp
theorem WrR.pl {k : Int} {t : ByteArray} (hk : k = 1 ∨ k = 2 ∨ k = 5 ∨ k = 6) : WrR k t t 0 := by
  refine ⟨fun e => by omega, fun e => ⟨?_, rfl⟩, fun e => by omega⟩
  unfold hdk
  rw [if_neg (by omega), if_neg (by omega), emp_app]
theorem take_on {l : List UInt8} {k : Nat} (h : k < l.length) : l.take (k + 1) = l.take k ++ [l[k]] := by
  rw [List.take_add_one, List.getElem?_eq_getElem h]
  rfl
theorem own_byte {w : World} {base : Nat} {u : UInt8} (hb : base ≤ w.heap.size) : (w.alloc (.cells #[.int .u8 u.toNat] 5)).ownsRow base 5 1 (.slice (some ⟨w.heap.size, 0, none⟩) 1 1) [u].length (Lib.byteCells [u]) :=
  ⟨rfl, Or.inr ⟨w.heap.size, 1, _, rfl, hb, heap_alloc_new w _, Nat.le_refl _, by simp only [maxLen]; omega, rfl, rfl⟩⟩
set_option maxHeartbeats 8000000 in
set_option maxRecDepth 100000 in
theorem written_is (k : Int) (t : ByteArray) (b e l c : Int) (w : World) (hs : t.size ≤ 1048576) : Calls Tryz.prog 27 #[.agg #[.int .i64 k, .string t, .int .i64 b, .int .i64 e, .int .i64 l, .int .i64 c]] w fun r w' => ∃ s c', r = .returned (.tuple #[.string s, .int .i64 c']) ∧ WrR k t s c' ∧ Below w.heap.size w w' := by
  have hB := below_alloc (w := w) (.cells #[.int .i64 k, .string t, .int .i64 b, .int .i64 e, .int .i64 l, .int .i64 c] 23)
  have qT := Blk.new w #[.int .i64 k, .string t, .int .i64 b, .int .i64 e, .int .i64 l, .int .i64 c] 23
  have eW : (w.alloc (.cells #[.int .i64 k, .string t, .int .i64 b, .int .i64 e, .int .i64 l, .int .i64 c] 23)).heap.size = w.heap.size + 1 := by simp
  obtain ⟨p, hp⟩ := bool_of (isPl t)
  obtain ⟨n, hn⟩ := bool_of (hasB nbN t)
  have HP := hideT hp
  have HN := hideT hn
  have G3 := hideT (fun W => rSymbol_is t (by omega) p n hp hn W)
  have G4 := hideT (fun W => rPlain_is t (by omega) p hp W)
  clear hp hn
  go_enter Tryz.func27, Tryz.ntmps27
  go_upto_region 1 with fail
  generalize w.alloc (.cells #[.int .i64 k, .string t, .int .i64 b, .int .i64 e, .int .i64 l, .int .i64 c] 23) = W at hB qT eW ⊢
  have t0 := qT.cell 0
  have t1 := qT.cell 1
  simp only [List.getElem?_toArray, List.getElem?_cons_zero, List.getElem?_cons_succ] at t0 t1
  by_cases k3 : k = 3
  · subst k3
    cases p
    · cases n
      · skip
        go_wp2_with fail
        refine (G3.out _).mono ?_
        unfold symA
        rintro e_ w1 ⟨rfl, hw1⟩
        rw [hw1]
        clear hw1 w1
        go_wp2
        refine bodyPost_ret (v := .tuple #[.string (barS t), .int .i64 0]) (by rw [results_ttB rfl]; go_simp) rfl ?_
        exact ⟨_, _, rfl, .pr (Or.inl rfl) (.sy ⟨fun c => absurd (HP.out.2 c) (by decide), fun _ c => absurd (HN.out.2 c) (by decide), fun _ _ => ⟨rfl, rfl⟩⟩), hB⟩
      · skip
        go_wp2_with fail
        refine (G3.out _).mono ?_
        unfold symA
        rintro e_ w1 ⟨rfl, hw1⟩
        rw [hw1]
        clear hw1 w1
        go_wp2
        refine bodyPost_ret (v := .tuple #[.string (⟨#[]⟩), .int .i64 122]) (by rw [results_ttB rfl]; go_simp) rfl ?_
        exact ⟨_, _, rfl, .pr (Or.inl rfl) (.sy ⟨fun c => absurd (HP.out.2 c) (by decide), fun _ _ => ⟨rfl, rfl⟩, fun _ c => absurd (HN.out.1 (by simp)) c⟩), hB⟩
    · skip
      go_wp2_with fail
      refine (G3.out _).mono ?_
      unfold symA
      rintro e_ w1 ⟨rfl, hw1⟩
      rw [hw1]
      clear hw1 w1
      go_wp2
      refine bodyPost_ret (v := .tuple #[.string (t), .int .i64 0]) (by rw [results_ttB rfl]; go_simp) rfl ?_
      exact ⟨_, _, rfl, .pr (Or.inl rfl) (.sy ⟨fun _ => ⟨rfl, rfl⟩, fun c => absurd (HP.out.1 (by simp)) c, fun c => absurd (HP.out.1 (by simp)) c⟩), hB⟩
  have x3 : (k == 3) = false := by rw [beq_eq_false_iff_ne]; exact k3
  by_cases k4 : k = 4
  · subst k4
    clear k3 x3
    cases p
    · skip
      go_wp2_with fail
      refine (G4.out _).mono ?_
      rintro e_ w1 ⟨rfl, hw1⟩
      rw [hw1]
      clear hw1 w1
      go_wp2
      refine bodyPost_ret (v := .tuple #[.string (⟨#[]⟩), .int .i64 122]) (by rw [results_ttB rfl]; go_simp) rfl ?_
      exact ⟨_, _, rfl, .pr (Or.inr (Or.inl rfl)) (.ke ⟨fun c => absurd (HP.out.2 c) (by decide), fun _ => ⟨rfl, rfl⟩⟩), hB⟩
    · skip
      go_wp2_with fail
      refine (G4.out _).mono ?_
      rintro e_ w1 ⟨rfl, hw1⟩
      rw [hw1]
      clear hw1 w1
      go_wp2
      refine bodyPost_ret (v := .tuple #[.string (⟨#[58]⟩ ++ t), .int .i64 0]) (by rw [results_ttB rfl]; go_simp) rfl ?_
      exact ⟨_, _, rfl, .pr (Or.inr (Or.inl rfl)) (.ke ⟨fun _ => ⟨rfl, rfl⟩, fun c => absurd (HP.out.1 (by simp)) c⟩), hB⟩
  have x4 : (k == 4) = false := by rw [beq_eq_false_iff_ne]; exact k4
  by_cases k9 : k = 9
  · subst k9
    clear k3 x3 k4 x4 G3 G4 HP HN p n
    obtain ⟨wy, hwy⟩ : ∃ wy, W.alloc (.cells #[.int .u8 34] 5) = wy := ⟨_, rfl⟩
    have bY := below_alloc (w := W) (.cells #[.int .u8 34] 5)
    have ownY := own_byte (w := W) (base := w.heap.size + 1) (u := 34) (by rw [eW]; omega)
    change (W.alloc (.cells #[.int .u8 34] 5)).ownsRow _ _ _ _ _ _ at ownY
    rw [hwy] at bY ownY
    rw [eW] at ownY
    have qY := qT.later bY
    have hBY := hB.trans (bY.mono hB.size)
    have hwzY : w.heap.size + 1 ≤ wy.heap.size := by have := bY.size; omega
    go_wp2_with fail
    try rw [hwy]
    go_loopw [4, 5] (fun v i wr => ∃ (k2 : Nat) (l2 : List UInt8), k2 ≤ t.size ∧ l2 = 34 :: dbl ((lsB t).take k2) ∧ l2.length ≤ 2 * k2 + 1 ∧ i = .int .i64 k2 ∧ wr.ownsRow (w.heap.size + 1) 5 1 v l2.length (Lib.byteCells l2) ∧ Blk wr w.heap.size #[.int .i64 9, .string t, .int .i64 b, .int .i64 e, .int .i64 l, .int .i64 c] 23 ∧ Below w.heap.size w wr ∧ w.heap.size + 1 ≤ wr.heap.size ∧ ∀ j, j < k2 → nqN (byt t j) = false) (fun v i wr => t.size - (intOf i).toNat)
    case atStart => exact ⟨0, [34], Nat.zero_le _, rfl, Nat.le_refl _, rfl, ownY, qY, hBY, hwzY, fun j hj => absurd hj (by omega)⟩
    case round =>
      clear ownY qY hBY hwzY bY hwy wy qT hB t0 t1 eW
      obtain ⟨k2, l2, hk2, hl2, hll, rfl, own, qT, hB, hwz, hnq⟩ := hrel
      have HL2 := hideT hl2
      have HNQ := hideT hnq
      clear hl2 hnq
      obtain ⟨a0, cp, ev⟩ := own_sl own
      subst ev
      have t1 := qT.cell 1
      simp only [List.getElem?_toArray, List.getElem?_cons_zero, List.getElem?_cons_succ] at t1
      by_cases hlt : k2 < t.size
      · have hki : ((k2 : Int) < (t.size : Int)) := by omega
        have hb := byt_of hlt
        have hkl : k2 < (lsB t).length := by rw [lsB_len]; exact hlt
        have hu : (lsB t)[k2]'hkl = t[k2]'hlt := S_at rfl hkl hlt
        have htk := take_on hkl
        rw [hu] at htk
        have GQ := hideT (fun W => quotable_is (byt t k2) W)
        rw [quN_not] at GQ
        rcases hf : nqN (byt t k2) with _ | _
        · rw [hf, hb] at GQ
          have HNX : Hid (∀ j, j < k2 + 1 → nqN (byt t j) = false) := hideT (fun j hj => by
            by_cases ej : j = k2
            · rw [ej]; exact hf
            · exact HNQ.out j (by omega))
          by_cases h34 : byt t k2 = 34
          · have x34 : (((t[k2]'hlt).toNat : Int) == 34) = true := by rw [← hb, h34]; rfl
            have eu : t[k2]'hlt = 34 := u8_of (by rw [← hb]; exact h34) (by decide)
            have HLX := hideT (show l2 ++ [t[k2]'hlt] ++ [34] = 34 :: dbl ((lsB t).take (k2 + 1)) by rw [htk, dbl_app, HL2.out, eu]; simp [dbl])
            clear eu
            clear hf h34 hb htk hu hkl HNQ HL2
            go_wp2_with fail
            refine (GQ.out _).mono ?_
            rintro e_ w1 ⟨rfl, hw1⟩
            rw [hw1]
            clear hw1 w1 GQ
            obtain ⟨wx, hwx⟩ : ∃ wx, wr.alloc (.cells #[.int .u8 (t[k2]'hlt).toNat] 5) = wx := ⟨_, rfl⟩
            have hnew := heap_alloc_new wr (.cells #[.int .u8 (t[k2]'hlt).toNat] 5)
            have b3 := below_alloc (w := wr) (.cells #[.int .u8 (t[k2]'hlt).toNat] 5)
            rw [hwx] at hnew b3
            have own2 := own_kp own (Kp.of (X := fun _ => False) b3) (fun _ _ c => c)
            have hk3 : l2.length + 1 ≤ maxLen := by simp only [maxLen, List.length_append, List.length_cons, List.length_nil]; omega
            have hbl2 : (l2.length + 1) * 1 ≤ 140737488355328 := by first | omega | (simp only [List.length_append, List.length_cons, List.length_nil]; omega)
            have hbB : w.heap.size + 1 ≤ wx.heap.size := Nat.le_trans hwz b3.size
            obtain ⟨i0, hi0, hz0, hz1, hz2⟩ := info_parts info_u8
            go_wp2_with (at_builtin; (try rw [hwx]); (refine wpList_append_lies _ (by rfl) _ _ _ (by rfl) (w.heap.size + 1) 5 i0 _ 1 1 Tryz.underlying39 hi0 hz0 hz1 hz2 rfl (by omega) (.slice a0 l2.length cp) (l2.length) (Lib.byteCells (l2)) (by rfl) own2 ⟨wr.heap.size, 0, none⟩ 1 1 [.int .u8 (t[k2]'hlt).toNat] (by rfl) (by rfl) (World.news_of_block (cs := #[.int .u8 (t[k2]'hlt).toNat]) (t := 5) (fr := (0, 0)) hnew) (by simp [Value.oneCell']) (by omega) hk3 hbl2 hbB wx.heap.size rfl ?_))
            intro gbwd capwd wd hown4 hgrow hat hlt4
            have kg := Kp.grown hgrow (fun k e => e)
            have hvb := fun g (hg : _ = some g) => own_lt own2 (g := g) hg
            replace qT := kg.blk (qT.later b3) (fun c => by have := (hvb _ c).1; omega)
            replace hB := (hB.trans (b3.mono hB.size)).trans (kg.below (Nat.le_trans hB.size b3.size) (fun k hk c => by have := (hvb _ c).1; omega))
            replace hwz : w.heap.size + 1 ≤ wd.heap.size := Nat.le_trans hbB kg.size
            have own3 : wd.ownsRow (w.heap.size + 1) 5 1 (.slice (some ⟨gbwd, 0, none⟩) (l2.length + 1) capwd) (l2.length + 1) (Lib.byteCells (l2 ++ [t[k2]'hlt])) := by rw [Lib.byteCells_append]; exact hown4
            clear kg hvb hown4 hgrow hat own2 own hk3 hbl2 hbB hnew b3 hwx hi0 hz0 hz1 hz2 hlt4 t1
            have t1 := qT.cell 1
            simp only [List.getElem?_toArray, List.getElem?_cons_zero, List.getElem?_cons_succ] at t1
            obtain ⟨wx, hwx⟩ : ∃ wx, wd.alloc (.cells #[.int .u8 34] 5) = wx := ⟨_, rfl⟩
            have hnew := heap_alloc_new wd (.cells #[.int .u8 34] 5)
            have b3 := below_alloc (w := wd) (.cells #[.int .u8 34] 5)
            rw [hwx] at hnew b3
            have own2 := own_kp own3 (Kp.of (X := fun _ => False) b3) (fun _ _ c => c)
            have hk3 : (l2.length + 1) + 1 ≤ maxLen := by simp only [maxLen, List.length_append, List.length_cons, List.length_nil]; omega
            have hbl2 : ((l2.length + 1) + 1) * 1 ≤ 140737488355328 := by first | omega | (simp only [List.length_append, List.length_cons, List.length_nil]; omega)
            have hbB : w.heap.size + 1 ≤ wx.heap.size := Nat.le_trans hwz b3.size
            obtain ⟨i0, hi0, hz0, hz1, hz2⟩ := info_parts info_u8
            go_wp2_with (at_builtin; (try rw [hwx]); (refine wpList_append_lies _ (by rfl) _ _ _ (by rfl) (w.heap.size + 1) 5 i0 _ 1 1 Tryz.underlying39 hi0 hz0 hz1 hz2 rfl (by omega) (.slice (some ⟨gbwd, 0, none⟩) (l2.length + 1) capwd) ((l2.length + 1)) (Lib.byteCells ((l2 ++ [t[k2]'hlt]))) (by rfl) own2 ⟨wd.heap.size, 0, none⟩ 1 1 [.int .u8 34] (by rfl) (by rfl) (World.news_of_block (cs := #[.int .u8 34]) (t := 5) (fr := (0, 0)) hnew) (by simp [Value.oneCell']) (by omega) hk3 hbl2 hbB wx.heap.size rfl ?_))
            intro gbwe capwe we hown4 hgrow hat hlt4
            have kg := Kp.grown hgrow (fun k e => e)
            have hvb := fun g (hg : _ = some g) => own_lt own2 (g := g) hg
            replace qT := kg.blk (qT.later b3) (fun c => by have := (hvb _ c).1; omega)
            replace hB := (hB.trans (b3.mono hB.size)).trans (kg.below (Nat.le_trans hB.size b3.size) (fun k hk c => by have := (hvb _ c).1; omega))
            replace hwz : w.heap.size + 1 ≤ we.heap.size := Nat.le_trans hbB kg.size
            have own5 : we.ownsRow (w.heap.size + 1) 5 1 (.slice (some ⟨gbwe, 0, none⟩) ((l2.length + 1) + 1) capwe) ((l2.length + 1) + 1) (Lib.byteCells ((l2 ++ [t[k2]'hlt]) ++ [34])) := by rw [Lib.byteCells_append]; exact hown4
            clear kg hvb hown4 hgrow hat own2 own3 hk3 hbl2 hbB hnew b3 hwx hi0 hz0 hz1 hz2 hlt4 t1
            have t1 := qT.cell 1
            simp only [List.getElem?_toArray, List.getElem?_cons_zero, List.getElem?_cons_succ] at t1
            go_wp2
            go_roundw
            case rel => exact ⟨k2 + 1, l2 ++ [t[k2]'hlt] ++ [34], by omega, HLX.out, by simp only [List.length_append, List.length_cons, List.length_nil]; omega, by go_num, by rw [show (l2 ++ [t[k2]'hlt] ++ ([34] : List UInt8)).length = l2.length + 1 + 1 by simp only [List.length_append, List.length_cons, List.length_nil]]; exact own5, qT, hB, hwz, HNX.out⟩
            case measure => simp [intOf]; omega
          · have x34 : (((t[k2]'hlt).toNat : Int) == 34) = false := by rw [← hb, beq_eq_false_iff_ne]; omega
            have eu : t[k2]'hlt ≠ 34 := fun c => h34 (by rw [hb, c]; rfl)
            have HLX := hideT (show l2 ++ [t[k2]'hlt] = 34 :: dbl ((lsB t).take (k2 + 1)) by rw [htk, dbl_app, HL2.out]; simp [dbl, eu])
            clear eu
            clear hf h34 hb htk hu hkl HNQ HL2
            go_wp2_with fail
            refine (GQ.out _).mono ?_
            rintro e_ w1 ⟨rfl, hw1⟩
            rw [hw1]
            clear hw1 w1 GQ
            obtain ⟨wx, hwx⟩ : ∃ wx, wr.alloc (.cells #[.int .u8 (t[k2]'hlt).toNat] 5) = wx := ⟨_, rfl⟩
            have hnew := heap_alloc_new wr (.cells #[.int .u8 (t[k2]'hlt).toNat] 5)
            have b3 := below_alloc (w := wr) (.cells #[.int .u8 (t[k2]'hlt).toNat] 5)
            rw [hwx] at hnew b3
            have own2 := own_kp own (Kp.of (X := fun _ => False) b3) (fun _ _ c => c)
            have hk3 : l2.length + 1 ≤ maxLen := by simp only [maxLen, List.length_append, List.length_cons, List.length_nil]; omega
            have hbl2 : (l2.length + 1) * 1 ≤ 140737488355328 := by first | omega | (simp only [List.length_append, List.length_cons, List.length_nil]; omega)
            have hbB : w.heap.size + 1 ≤ wx.heap.size := Nat.le_trans hwz b3.size
            obtain ⟨i0, hi0, hz0, hz1, hz2⟩ := info_parts info_u8
            go_wp2_with (at_builtin; (try rw [hwx]); (refine wpList_append_lies _ (by rfl) _ _ _ (by rfl) (w.heap.size + 1) 5 i0 _ 1 1 Tryz.underlying39 hi0 hz0 hz1 hz2 rfl (by omega) (.slice a0 l2.length cp) (l2.length) (Lib.byteCells (l2)) (by rfl) own2 ⟨wr.heap.size, 0, none⟩ 1 1 [.int .u8 (t[k2]'hlt).toNat] (by rfl) (by rfl) (World.news_of_block (cs := #[.int .u8 (t[k2]'hlt).toNat]) (t := 5) (fr := (0, 0)) hnew) (by simp [Value.oneCell']) (by omega) hk3 hbl2 hbB wx.heap.size rfl ?_))
            intro gbwd capwd wd hown4 hgrow hat hlt4
            have kg := Kp.grown hgrow (fun k e => e)
            have hvb := fun g (hg : _ = some g) => own_lt own2 (g := g) hg
            replace qT := kg.blk (qT.later b3) (fun c => by have := (hvb _ c).1; omega)
            replace hB := (hB.trans (b3.mono hB.size)).trans (kg.below (Nat.le_trans hB.size b3.size) (fun k hk c => by have := (hvb _ c).1; omega))
            replace hwz : w.heap.size + 1 ≤ wd.heap.size := Nat.le_trans hbB kg.size
            have own3 : wd.ownsRow (w.heap.size + 1) 5 1 (.slice (some ⟨gbwd, 0, none⟩) (l2.length + 1) capwd) (l2.length + 1) (Lib.byteCells (l2 ++ [t[k2]'hlt])) := by rw [Lib.byteCells_append]; exact hown4
            clear kg hvb hown4 hgrow hat own2 own hk3 hbl2 hbB hnew b3 hwx hi0 hz0 hz1 hz2 hlt4 t1
            have t1 := qT.cell 1
            simp only [List.getElem?_toArray, List.getElem?_cons_zero, List.getElem?_cons_succ] at t1
            go_wp2
            go_roundw
            case rel => exact ⟨k2 + 1, l2 ++ [t[k2]'hlt], by omega, HLX.out, by simp only [List.length_append, List.length_cons, List.length_nil]; omega, by go_num, by rw [show (l2 ++ [t[k2]'hlt]).length = l2.length + 1 by simp only [List.length_append, List.length_cons, List.length_nil]]; exact own3, qT, hB, hwz, HNX.out⟩
            case measure => simp [intOf]; omega
        · have HNO := hideT (show hasB nqN t from ⟨k2, hlt, hf⟩)
          rw [hf, hb] at GQ
          clear hf hb htk hu hkl HNQ HL2 own
          go_wp2_with fail
          refine (GQ.out _).mono ?_
          rintro e_ w1 ⟨rfl, hw1⟩
          rw [hw1]
          clear hw1 w1 GQ
          go_wp2
          refine bodyPost_ret (v := .tuple #[.string (⟨#[]⟩), .int .i64 122]) (by rw [results_ttB rfl]; go_simp) rfl ?_
          exact ⟨_, _, rfl, .pr (Or.inr (Or.inr rfl)) (.st ⟨fun _ => ⟨rfl, rfl⟩, fun c => absurd HNO.out c⟩), hB⟩
      · have hki : ¬ ((k2 : Int) < (t.size : Int)) := by omega
        have ek : k2 = t.size := by omega
        have HQS := hideT (show (⟨(l2 ++ [34]).toArray⟩ : ByteArray) = quoS t by unfold quoS; rw [HL2.out, ek, ← lsB_len, List.take_length]; rfl)
        have HNO := hideT (show ¬ hasB nqN t from fun ⟨j, hj, hc⟩ => by rw [HNQ.out j (by omega)] at hc; exact absurd hc (by decide))
        clear ek HL2 HNQ
        obtain ⟨wx, hwx⟩ : ∃ wx, wr.alloc (.cells #[.int .u8 34] 5) = wx := ⟨_, rfl⟩
        have hnew := heap_alloc_new wr (.cells #[.int .u8 34] 5)
        have b3 := below_alloc (w := wr) (.cells #[.int .u8 34] 5)
        rw [hwx] at hnew b3
        have own2 := own_kp own (Kp.of (X := fun _ => False) b3) (fun _ _ c => c)
        have hk3 : l2.length + 1 ≤ maxLen := by simp only [maxLen, List.length_append, List.length_cons, List.length_nil]; omega
        have hbl2 : (l2.length + 1) * 1 ≤ 140737488355328 := by first | omega | (simp only [List.length_append, List.length_cons, List.length_nil]; omega)
        have hbB : w.heap.size + 1 ≤ wx.heap.size := Nat.le_trans hwz b3.size
        obtain ⟨i0, hi0, hz0, hz1, hz2⟩ := info_parts info_u8
        go_wp2_with (at_builtin; (try rw [hwx]); (refine wpList_append_lies _ (by rfl) _ _ _ (by rfl) (w.heap.size + 1) 5 i0 _ 1 1 Tryz.underlying39 hi0 hz0 hz1 hz2 rfl (by omega) (.slice a0 l2.length cp) (l2.length) (Lib.byteCells (l2)) (by rfl) own2 ⟨wr.heap.size, 0, none⟩ 1 1 [.int .u8 34] (by rfl) (by rfl) (World.news_of_block (cs := #[.int .u8 34]) (t := 5) (fr := (0, 0)) hnew) (by simp [Value.oneCell']) (by omega) hk3 hbl2 hbB wx.heap.size rfl ?_))
        intro gbwd capwd wd hown4 hgrow hat hlt4
        have kg := Kp.grown hgrow (fun k e => e)
        have hvb := fun g (hg : _ = some g) => own_lt own2 (g := g) hg
        replace qT := kg.blk (qT.later b3) (fun c => by have := (hvb _ c).1; omega)
        replace hB := (hB.trans (b3.mono hB.size)).trans (kg.below (Nat.le_trans hB.size b3.size) (fun k hk c => by have := (hvb _ c).1; omega))
        replace hwz : w.heap.size + 1 ≤ wd.heap.size := Nat.le_trans hbB kg.size
        have own3 : wd.ownsRow (w.heap.size + 1) 5 1 (.slice (some ⟨gbwd, 0, none⟩) (l2.length + 1) capwd) (l2.length + 1) (Lib.byteCells (l2 ++ [34])) := by rw [Lib.byteCells_append]; exact hown4
        clear kg hvb hown4 hgrow hat own2 own hk3 hbl2 hbB hnew b3 hwx hi0 hz0 hz1 hz2 hlt4 t1
        have t1 := qT.cell 1
        simp only [List.getElem?_toArray, List.getElem?_cons_zero, List.getElem?_cons_succ] at t1
        have hcs := own_str_any (P := Tryz.prog) own3 Tryz.underlying39 Tryz.underlying5 Tryz.underlying9
        clear own3
        go_wp2
        refine bodyPost_ret (v := .tuple #[.string (⟨(l2 ++ [34]).toArray⟩), .int .i64 0]) (by rw [results_ttB rfl]; go_simp) rfl ?_
        exact ⟨_, _, rfl, .pr (Or.inr (Or.inr rfl)) (.st ⟨fun c => absurd c HNO.out, fun _ => ⟨HQS.out, rfl⟩⟩), hB⟩
  have x9 : (k == 9) = false := by rw [beq_eq_false_iff_ne]; exact k9
  by_cases k1 : k = 1
  · have x1 : (k == 1) = true := by rw [k1]; rfl
    have HW := hideT (WrR.pl (k := k) (t := t) (by omega))
    clear k3 k4 k9 k1
    go_wp2
    refine bodyPost_ret (v := .tuple #[.string (t), .int .i64 0]) (by rw [results_ttB rfl]; go_simp) rfl ?_
    exact ⟨_, _, rfl, HW.out, hB⟩
  have x1 : (k == 1) = false := by rw [beq_eq_false_iff_ne]; exact k1
  by_cases k2 : k = 2
  · have x2 : (k == 2) = true := by rw [k2]; rfl
    have HW := hideT (WrR.pl (k := k) (t := t) (by omega))
    clear k3 k4 k9 k1 k2
    go_wp2
    refine bodyPost_ret (v := .tuple #[.string (t), .int .i64 0]) (by rw [results_ttB rfl]; go_simp) rfl ?_
    exact ⟨_, _, rfl, HW.out, hB⟩
  have x2 : (k == 2) = false := by rw [beq_eq_false_iff_ne]; exact k2
  by_cases k5 : k = 5
  · have x5 : (k == 5) = true := by rw [k5]; rfl
    have HW := hideT (WrR.pl (k := k) (t := t) (by omega))
    clear k3 k4 k9 k1 k2 k5
    go_wp2
    refine bodyPost_ret (v := .tuple #[.string (t), .int .i64 0]) (by rw [results_ttB rfl]; go_simp) rfl ?_
    exact ⟨_, _, rfl, HW.out, hB⟩
  have x5 : (k == 5) = false := by rw [beq_eq_false_iff_ne]; exact k5
  by_cases k6 : k = 6
  · have x6 : (k == 6) = true := by rw [k6]; rfl
    have HW := hideT (WrR.pl (k := k) (t := t) (by omega))
    clear k3 k4 k9 k1 k2 k5 k6
    go_wp2
    refine bodyPost_ret (v := .tuple #[.string (t), .int .i64 0]) (by rw [results_ttB rfl]; go_simp) rfl ?_
    exact ⟨_, _, rfl, HW.out, hB⟩
  have x6 : (k == 6) = false := by rw [beq_eq_false_iff_ne]; exact k6
  by_cases k7 : k = 7
  · have x7 : (k == 7) = true := by rw [k7]; rfl
    have HW := hideT (show WrR k t (⟨#[35, 120]⟩ ++ t) 0 from ⟨fun e => by omega, fun _ => ⟨by unfold hdk; rw [if_pos k7], rfl⟩, fun e => by omega⟩)
    clear k3 k4 k9 k1 k2 k5 k6 k7
    go_wp2
    refine bodyPost_ret (v := .tuple #[.string (⟨#[35, 120]⟩ ++ t), .int .i64 0]) (by rw [results_ttB rfl]; go_simp) rfl ?_
    exact ⟨_, _, rfl, HW.out, hB⟩
  have x7 : (k == 7) = false := by rw [beq_eq_false_iff_ne]; exact k7
  by_cases k8 : k = 8
  · have x8 : (k == 8) = true := by rw [k8]; rfl
    have HW := hideT (show WrR k t (⟨#[35, 98]⟩ ++ t) 0 from ⟨fun e => by omega, fun _ => ⟨by unfold hdk; rw [if_neg k7, if_pos k8], rfl⟩, fun e => by omega⟩)
    clear k3 k4 k9 k1 k2 k5 k6 k7 k8
    go_wp2
    refine bodyPost_ret (v := .tuple #[.string (⟨#[35, 98]⟩ ++ t), .int .i64 0]) (by rw [results_ttB rfl]; go_simp) rfl ?_
    exact ⟨_, _, rfl, HW.out, hB⟩
  have x8 : (k == 8) = false := by rw [beq_eq_false_iff_ne]; exact k8
  have HW := hideT (show WrR k t ⟨#[]⟩ 120 from ⟨fun e => by omega, fun e => by omega, fun _ => rfl⟩)
  clear k3 k4 k9 k1 k2 k5 k6 k7 k8
  go_wp2
  refine bodyPost_ret (v := .tuple #[.string (⟨#[]⟩), .int .i64 120]) (by rw [results_ttB rfl]; go_simp) rfl ?_
  exact ⟨_, _, rfl, HW.out, hB⟩

end Go.Proofs.YtpfmamimhhnbiaaGreatDoor

namespace Go.Proofs.YtpfmamimhhnbiaaGreatDoor
open Go.RowKit
set_option linter.unusedVariables false
set_option linter.unusedSimpArgs false
theorem results_ttt {fn : Func} {p u t : Tmp} (h : fn.results = #[.tmp p, .tmp u, .tmp t]) (tmps : Array Value) (P : Program) (w : World) :
    (results fn tmps).run P w = .ok (.tuple #[tmps.getD p undef, tmps.getD u undef, tmps.getD t undef]) w := by
  simp only [results, h]
  simp
set_option maxHeartbeats 8000000 in
set_option maxRecDepth 100000 in
theorem rread_is (s : ByteArray) (S : List UInt8) (hS : s.data.toList = S) (fin : Bool) (w : World) (hsz : s.size ≤ 4294967280) : Calls Tryz.prog 28 #[.string s, .bool fin] w fun r w' => ∃ v, r = .returned (.tuple #[v, .int .i64 (rdF fin S 0).2.1, .int .i64 (rdF fin S 0).2.2]) ∧ w'.ownsRow w.heap.size 23 6 v (rdF fin S 0).1.length (tokCells (rdF fin S 0).1) ∧ Below w.heap.size w w' ∧ ((rdF fin S 0).1 = [] → v = .slice none 0 0) := by
  have hy := fun k (h : k < s.size) => byS_byt h
  have hsl : s.size = S.length := by rw [← hS, Array.length_toList]; rfl
  rw [hS] at hy
  have HSS := hideT hS
  clear hS
  have HY := hideT hy
  have HL := hideT hsl
  clear hy hsl
  obtain ⟨R, hR⟩ : ∃ R, rdF fin S 0 = R := ⟨_, rfl⟩
  rw [hR]
  have GG0 := hideT (fun W => rgap_is s S HSS.out 0 W hsz (by omega))
  rw [show ((0 : Nat) : Int) = 0 from rfl] at GG0
  obtain ⟨a1, a2, a3, _⟩ := gapE_spec S 3 0 (Or.inl rfl) (Nat.zero_le _)
  have HI0 := hideT ((rdF_gap fin (Nat.zero_le _)).trans hR)
  rw [← HL.out] at a2 a3
  generalize gapE S 3 0 = k0 at GG0 a1 a2 a3 HI0
  have HA3 := hideT a3
  clear a3 hR a1
  go_enter Tryz.func28, Tryz.ntmps28
  go_wp2_with fail
  refine (GG0.out _).mono ?_
  rintro e w1 ⟨rfl, hw1⟩
  rw [hw1]
  clear hw1 w1 GG0
  go_wp2_with fail
  go_loopw [7, 8, 9, 10, 11] (fun l ln bg dn i wr => ∃ (k d : Nat) (T : List Tok), k ≤ s.size ∧ d ≤ k ∧ T.length ≤ k ∧ i = .int .i64 k ∧ dn = .int .i64 d ∧ ln = .int .i64 ((nlN S d : Int) + 1) ∧ bg = .int .i64 (ahN S d : Nat) ∧ wr.ownsRow w.heap.size 23 6 l T.length (tokCells T) ∧ Below w.heap.size w wr ∧ (T = [] → l = .slice none 0 0) ∧ (k < s.size → 4 < startN (byS S k)) ∧ (T ++ (rdF fin S k).1, (rdF fin S k).2) = R) (fun l ln bg dn i wr => s.size - (intOf i).toNat)
  case atStart => exact ⟨k0, 0, [], a2, Nat.zero_le _, Nat.zero_le _, rfl, rfl, rfl, rfl, World.ownsRow_nil _ _ _ _, Below.refl _ _, fun _ => rfl, HA3.out, by rw [← HI0.out]; rfl⟩
  case round =>
    clear HA3 HI0 a2
    obtain ⟨k, d, T, hk, hdk, hTk, rfl, rfl, rfl, rfl, own, hB, hnil, hs4, hi0⟩ := hrel
    have HI := hideT hi0
    have HN := hideT hnil
    have H4 := hideT hs4
    clear hi0 hnil hs4
    obtain ⟨a0, cp, ev⟩ := own_sl own
    subst ev
    by_cases hlt : k < s.size
    · have hki : ((k : Int) < (s.size : Int)) := by omega
      have hkl : k < S.length := by rw [← HL.out]; exact hlt
      have GL := hideT (fun W => look_is s S HSS.out k fin W hsz hlt)
      have hst := look_step hkl (H4.out hlt)
      rcases hX : lookP S k with ⟨kk, t, e, self⟩ | code | x
      · rw [hX] at GL hst
        clear hX
        by_cases ho : self = false ∧ e = s.size ∧ fin = false
        · obtain ⟨o1, o2, o3⟩ := ho
          subst o1
          subst o3
          rw [seenV_open o2] at GL
          unfold opV at GL
          have hop := rdF_open hst (by rw [← HL.out]; exact o2)
          have HOP := hideT hop
          clear hop o2 hst hkl
          have HRR := hideT (show R = (T, 0, (k : Int)) by rw [← HI.out, HOP.out]; simp)
          clear HI
          go_wp2_with fail
          refine (GL.out _).mono ?_
          rintro e_ w1 ⟨rfl, b1⟩
          clear GL
          have b2 := below_alloc (w := w1) (.cells #[.int .i64 1, .int .i64 0, .string ⟨#[]⟩, .int .i64 0, .int .i64 0, .int .i64 0] 79)
          have q8 := Blk.new w1 #[.int .i64 1, .int .i64 0, .string ⟨#[]⟩, .int .i64 0, .int .i64 0, .int .i64 0] 79
          have bb := b1.trans (b2.mono b1.size)
          have hw18 : wr.heap.size ≤ w1.heap.size := b1.size
          have hvb := fun g hg => (own_lt own (g := g) hg).2
          replace own := own_kp own (Kp.of (X := fun _ => False) bb) (fun _ _ c => c)
          replace hB := hB.trans (bb.mono hB.size)
          have y0 := q8.cell 0
          have y1 := q8.cell 1
          have y2 := q8.cell 2
          have y3 := q8.cell 3
          have y4 := q8.cell 4
          have y5 := q8.cell 5
          simp only [List.getElem?_toArray, List.getElem?_cons_zero, List.getElem?_cons_succ] at y0 y1 y2 y3 y4 y5
          go_wp2
          refine bodyPost_ret (v := .tuple #[.slice a0 T.length cp, .int .i64 (0), .int .i64 ((k : Int))]) (by rw [results_ttt rfl]; go_simp) rfl ?_
          rw [HRR.out]
          exact ⟨_, rfl, own, hB, HN.out⟩
        · rw [seenV_whole ho] at GL
          unfold whV at GL
          have htk := rdF_tok (fin := fin) hst (by rw [← HL.out]; exact ho)
          obtain ⟨e1, e2, e3, _, _⟩ := hst
          rw [← HL.out] at e2
          obtain ⟨g1, g2, g3, _⟩ := gapE_spec S 3 e (Or.inl rfl) (by rw [← HL.out]; exact e2)
          rw [← HL.out] at g2 g3
          have GG := hideT (fun W => rgap_is s S HSS.out e W hsz e2)
          have hnx : (T ++ [tokAt S kk t k e] ++ (rdF fin S (gapE S 3 e)).1, (rdF fin S (gapE S 3 e)).2) = R := by rw [← HI.out, rdF_gap fin (by rw [← HL.out]; exact e2), htk]; simp
          have HNX := hideT hnx
          clear hnx htk HI ho hkl
          generalize gapE S 3 e = k2 at GG g1 g2 g3 HNX
          have HG3 := hideT g3
          clear g3
          go_wp2_with fail
          refine (GL.out _).mono ?_
          rintro e_ w1 ⟨rfl, b1⟩
          clear GL
          have b2 := below_alloc (w := w1) (.cells #[.int .i64 0, .int .i64 kk, .string t, .int .i64 e, .int .i64 0, .int .i64 0] 79)
          have q8 := Blk.new w1 #[.int .i64 0, .int .i64 kk, .string t, .int .i64 e, .int .i64 0, .int .i64 0] 79
          have bb := b1.trans (b2.mono b1.size)
          have hw18 : wr.heap.size ≤ w1.heap.size := b1.size
          have hvb := fun g hg => (own_lt own (g := g) hg).2
          replace own := own_kp own (Kp.of (X := fun _ => False) bb) (fun _ _ c => c)
          replace hB := hB.trans (bb.mono hB.size)
          have y0 := q8.cell 0
          have y1 := q8.cell 1
          have y2 := q8.cell 2
          have y3 := q8.cell 3
          have y4 := q8.cell 4
          have y5 := q8.cell 5
          simp only [List.getElem?_toArray, List.getElem?_cons_zero, List.getElem?_cons_succ] at y0 y1 y2 y3 y4 y5
          go_wp2_with fail
          go_loop [8, 9, 10] (fun ln bg dn => ∃ d2 : Nat, d2 ≤ k ∧ dn = .int .i64 d2 ∧ ln = .int .i64 ((nlN S d2 : Int) + 1) ∧ bg = .int .i64 (ahN S d2 : Nat)) (fun ln bg dn => k - (intOf dn).toNat)
          case atStart => exact ⟨d, hdk, rfl, rfl, rfl⟩
          case round =>
            obtain ⟨d2, hd2, rfl, rfl, rfl⟩ := hrel
            have hnl := nlN_le S d2
            have hal := ahN_le S d2
            by_cases hdl : d2 < k
            · have hdi : ((d2 : Int) < (k : Int)) := by omega
              have hds : d2 < s.size := by omega
              have hb := byt_of hds
              have hyd := HY.out d2 hds
              by_cases h10 : byt s d2 = 10
              · have x10 : (((s[d2]'hds).toNat : Int) == 10) = true := by rw [← hb, h10]; rfl
                have z1 : (nlN S (d2 + 1) : Int) = (nlN S d2 : Int) + 1 := by rw [show nlN S (d2 + 1) = nlN S d2 + 1 by simp only [nlN]; rw [hyd, if_pos h10]]; omega
                have z2 : ahN S (d2 + 1) = d2 + 1 := by simp only [ahN]; rw [hyd, if_pos h10]
                have HZ := hideT (And.intro z1 z2)
                clear z1 z2 h10 hb hyd
                go_wp2
                go_round
                case rel => exact ⟨d2 + 1, by omega, by go_num, by rw [HZ.out.1], by rw [HZ.out.2]; go_num⟩
                case measure => simp [intOf]; omega
              · have x10 : (((s[d2]'hds).toNat : Int) == 10) = false := by rw [← hb, beq_eq_false_iff_ne]; omega
                have z1 : nlN S (d2 + 1) = nlN S d2 := by simp only [nlN]; rw [hyd, if_neg h10]
                have z2 : ahN S (d2 + 1) = ahN S d2 := by simp only [ahN]; rw [hyd, if_neg h10]
                have HZ := hideT (And.intro z1 z2)
                clear z1 z2 h10 hb hyd
                go_wp2
                go_round
                case rel => exact ⟨d2 + 1, by omega, by go_num, by rw [HZ.out.1], by rw [HZ.out.2]⟩
                case measure => simp [intOf]; omega
            · have hdi : ¬ ((d2 : Int) < (k : Int)) := by omega
              have ed : d2 = k := by omega
              subst ed
              generalize (w1.alloc (.cells #[.int .i64 0, .int .i64 kk, .string t, .int .i64 e, .int .i64 0, .int .i64 0] 79)) = W2 at own hB q8 bb b2 y0 y1 y2 y3 y4 y5 ⊢
              obtain ⟨wx, hwx⟩ : ∃ wx, W2.alloc (.cells #[.int .i64 kk, .string t, .int .i64 d2, .int .i64 e, .int .i64 ((nlN S d2 : Int) + 1), .int .i64 ((d2 : Int) - (ahN S d2 : Int) + 1)] 23) = wx := ⟨_, rfl⟩
              have hnew := heap_alloc_new W2 (.cells #[.int .i64 kk, .string t, .int .i64 d2, .int .i64 e, .int .i64 ((nlN S d2 : Int) + 1), .int .i64 ((d2 : Int) - (ahN S d2 : Int) + 1)] 23)
              have b3 := below_alloc (w := W2) (.cells #[.int .i64 kk, .string t, .int .i64 d2, .int .i64 e, .int .i64 ((nlN S d2 : Int) + 1), .int .i64 ((d2 : Int) - (ahN S d2 : Int) + 1)] 23)
              rw [hwx] at hnew b3
              have own2 := own_kp own (Kp.of (X := fun _ => False) b3) (fun _ _ c => c)
              have hk2 : T.length + 1 ≤ maxLen := by simp only [maxLen]; omega
              have hbl2 : (T.length + 1) * 56 ≤ 140737488355328 := by omega
              have hbB : w.heap.size ≤ wx.heap.size := Nat.le_trans hB.size b3.size
              obtain ⟨i0, hi0, hz0, hz1, hz2⟩ := info_parts info_Tok
              go_wp2_with (at_builtin; (try rw [hwx]); (refine wpList_append_lies _ (by rfl) _ _ _ (by rfl) w.heap.size 23 i0 _ 6 56 Tryz.underlying59 hi0 hz0 hz1 hz2 rfl (by omega) (.slice a0 T.length cp) T.length (tokCells T) (by rfl) own2 ⟨W2.heap.size, 0, none⟩ 1 1 [.int .i64 kk, .string t, .int .i64 d2, .int .i64 e, .int .i64 ((nlN S d2 : Int) + 1), .int .i64 ((d2 : Int) - (ahN S d2 : Int) + 1)] (by rfl) (by rfl) (World.news_of_block (cs := #[.int .i64 kk, .string t, .int .i64 d2, .int .i64 e, .int .i64 ((nlN S d2 : Int) + 1), .int .i64 ((d2 : Int) - (ahN S d2 : Int) + 1)]) (t := 23) (fr := (0, 0)) hnew) (by simp [Value.oneCell']) (by omega) hk2 hbl2 hbB wx.heap.size rfl ?_))
              intro gb cap wd hown4 hgrow hat hlt4
              have kg := Kp.grown hgrow (fun k e => e)
              have q9 := kg.blk (q8.later b3) (fun c => by have := hvb _ c; omega)
              have z3 := q9.cell 3
              simp only [List.getElem?_toArray, List.getElem?_cons_zero, List.getElem?_cons_succ] at z3
              have hlo := fun g hg => (own_lt own (g := g) hg).1
              replace hB := (hB.trans (b3.mono hB.size)).trans (kg.below hbB (fun k hk c => by have := hlo _ c; omega))
              have hcol : ((d2 : Int) - (ahN S d2 : Int) + 1) = ((d2 - ahN S d2 : Nat) : Int) + 1 := by omega
              have own3 : wd.ownsRow w.heap.size 23 6 (.slice (some ⟨gb, 0, none⟩) (T.length + 1) cap) (T ++ [tokAt S kk t d2 e]).length (tokCells (T ++ [tokAt S kk t d2 e])) := by
                rw [List.length_append, tokCells_app]
                rw [hcol] at hown4
                exact hown4
              clear kg hown4 hgrow hat own2 own hk2 hbl2 hbB hnew b3 hwx hi0 hz0 hz1 hz2 q8 q9 bb b2 hvb hlo b1 y0 y1 y2 y3 y4 y5
              go_wp2_with fail
              refine (GG.out _).mono ?_
              rintro e_ w5 ⟨rfl, hw5⟩
              rw [hw5]
              clear hw5 w5
              go_wp2
              go_roundw
              case rel => exact ⟨k2, d2, T ++ [tokAt S kk t d2 e], g2, by omega, by rw [List.length_append]; simp only [List.length_cons, List.length_nil]; omega, rfl, rfl, rfl, rfl, own3, hB, fun c => absurd (List.append_eq_nil_iff.1 c).2 (by simp), HG3.out, HNX.out⟩
              case measure => simp [intOf]; omega
      · rw [hX] at GL hst
        clear hX
        obtain ⟨p1, p2⟩ := rdF_half hst
        clear hst hkl
        cases fin
        · have HP := hideT p2
          clear p1 p2
          have eV : seenV s.size k false (.half code) = opV := rfl
          rw [eV] at GL
          unfold opV at GL
          clear eV
          have HRR := hideT (show R = (T, 0, (k : Int)) by rw [← HI.out, HP.out]; simp)
          clear HI
          go_wp2_with fail
          refine (GL.out _).mono ?_
          rintro e_ w1 ⟨rfl, b1⟩
          clear GL
          have b2 := below_alloc (w := w1) (.cells #[.int .i64 1, .int .i64 0, .string ⟨#[]⟩, .int .i64 0, .int .i64 0, .int .i64 0] 79)
          have q8 := Blk.new w1 #[.int .i64 1, .int .i64 0, .string ⟨#[]⟩, .int .i64 0, .int .i64 0, .int .i64 0] 79
          have bb := b1.trans (b2.mono b1.size)
          have hw18 : wr.heap.size ≤ w1.heap.size := b1.size
          have hvb := fun g hg => (own_lt own (g := g) hg).2
          replace own := own_kp own (Kp.of (X := fun _ => False) bb) (fun _ _ c => c)
          replace hB := hB.trans (bb.mono hB.size)
          have y0 := q8.cell 0
          have y1 := q8.cell 1
          have y2 := q8.cell 2
          have y3 := q8.cell 3
          have y4 := q8.cell 4
          have y5 := q8.cell 5
          simp only [List.getElem?_toArray, List.getElem?_cons_zero, List.getElem?_cons_succ] at y0 y1 y2 y3 y4 y5
          go_wp2
          refine bodyPost_ret (v := .tuple #[.slice a0 T.length cp, .int .i64 (0), .int .i64 ((k : Int))]) (by rw [results_ttt rfl]; go_simp) rfl ?_
          rw [HRR.out]
          exact ⟨_, rfl, own, hB, HN.out⟩
        · have HP := hideT p1
          clear p1 p2
          have eV : seenV s.size k true (.half code) = wrV code k := rfl
          rw [eV] at GL
          unfold wrV at GL
          clear eV
          have HRR := hideT (show R = (T, code, (k : Int)) by rw [← HI.out, HP.out]; simp)
          clear HI
          go_wp2_with fail
          refine (GL.out _).mono ?_
          rintro e_ w1 ⟨rfl, b1⟩
          clear GL
          have b2 := below_alloc (w := w1) (.cells #[.int .i64 2, .int .i64 0, .string ⟨#[]⟩, .int .i64 0, .int .i64 code, .int .i64 k] 79)
          have q8 := Blk.new w1 #[.int .i64 2, .int .i64 0, .string ⟨#[]⟩, .int .i64 0, .int .i64 code, .int .i64 k] 79
          have bb := b1.trans (b2.mono b1.size)
          have hw18 : wr.heap.size ≤ w1.heap.size := b1.size
          have hvb := fun g hg => (own_lt own (g := g) hg).2
          replace own := own_kp own (Kp.of (X := fun _ => False) bb) (fun _ _ c => c)
          replace hB := hB.trans (bb.mono hB.size)
          have y0 := q8.cell 0
          have y1 := q8.cell 1
          have y2 := q8.cell 2
          have y3 := q8.cell 3
          have y4 := q8.cell 4
          have y5 := q8.cell 5
          simp only [List.getElem?_toArray, List.getElem?_cons_zero, List.getElem?_cons_succ] at y0 y1 y2 y3 y4 y5
          go_wp2_with fail
          go_quiet (fail)
          go_wp2
          refine bodyPost_ret (v := .tuple #[.slice a0 T.length cp, .int .i64 (code), .int .i64 ((k : Int))]) (by rw [results_ttt rfl]; go_simp) rfl ?_
          rw [HRR.out]
          exact ⟨_, rfl, own, hB.trans ⟨rfl, rfl, rfl, Nat.le_refl _, fun _ _ => rfl⟩, HN.out⟩
      · rw [hX] at GL hst
        clear hX
        have HP := hideT (rdF_bad fin hst)
        clear hst hkl
        have eV : seenV s.size k fin (.bad x) = wrV 120 x := rfl
        rw [eV] at GL
        unfold wrV at GL
        clear eV
        have HRR := hideT (show R = (T, 120, (x : Int)) by rw [← HI.out, HP.out]; simp)
        clear HI
        go_wp2_with fail
        refine (GL.out _).mono ?_
        rintro e_ w1 ⟨rfl, b1⟩
        clear GL
        have b2 := below_alloc (w := w1) (.cells #[.int .i64 2, .int .i64 0, .string ⟨#[]⟩, .int .i64 0, .int .i64 120, .int .i64 x] 79)
        have q8 := Blk.new w1 #[.int .i64 2, .int .i64 0, .string ⟨#[]⟩, .int .i64 0, .int .i64 120, .int .i64 x] 79
        have bb := b1.trans (b2.mono b1.size)
        have hw18 : wr.heap.size ≤ w1.heap.size := b1.size
        have hvb := fun g hg => (own_lt own (g := g) hg).2
        replace own := own_kp own (Kp.of (X := fun _ => False) bb) (fun _ _ c => c)
        replace hB := hB.trans (bb.mono hB.size)
        have y0 := q8.cell 0
        have y1 := q8.cell 1
        have y2 := q8.cell 2
        have y3 := q8.cell 3
        have y4 := q8.cell 4
        have y5 := q8.cell 5
        simp only [List.getElem?_toArray, List.getElem?_cons_zero, List.getElem?_cons_succ] at y0 y1 y2 y3 y4 y5
        go_wp2_with fail
        go_quiet (fail)
        go_wp2
        refine bodyPost_ret (v := .tuple #[.slice a0 T.length cp, .int .i64 (120), .int .i64 ((x : Int))]) (by rw [results_ttt rfl]; go_simp) rfl ?_
        rw [HRR.out]
        exact ⟨_, rfl, own, hB.trans ⟨rfl, rfl, rfl, Nat.le_refl _, fun _ _ => rfl⟩, HN.out⟩
    · have hki : ¬ ((k : Int) < (s.size : Int)) := by omega
      have ek : k = S.length := by rw [← HL.out]; omega
      have HRR := hideT (show R = (T, 0, (k : Int)) by rw [← HI.out, ek, rdF_end]; simp)
      clear HI ek
      go_wp2
      refine bodyPost_ret (v := .tuple #[.slice a0 T.length cp, .int .i64 0, .int .i64 (k : Int)]) (by rw [results_ttt rfl]; go_simp) rfl ?_
      rw [HRR.out]
      exact ⟨_, rfl, own, hB, HN.out⟩

end Go.Proofs.YtpfmamimhhnbiaaGreatDoor

namespace Go.Proofs.YtpfmamimhhnbiaaGreatDoor
open Go.RowKit
set_option linter.unusedVariables false
set_option linter.unusedSimpArgs false

theorem WrR.size {k : Int} {t s : ByteArray} (h : WrR k t s 0) : s.size ≤ 2 * t.size + 2 := by
  obtain ⟨h1, h2, h3⟩ := h
  by_cases hk : k = 3 ∨ k = 4 ∨ k = 9
  · exact (h1 hk).size
  · by_cases hk2 : 1 ≤ k ∧ k ≤ 9
    · rw [(h2 (by omega)).1, ByteArray.size_append]; have := hdk_size k; omega
    · exact absurd (h3 hk2) (by decide)
theorem WrR.bad {k : Int} {t s : ByteArray} {c : Int} (h : WrR k t s c) (hc : c ≠ 0) : PrR k t empS c := by
  obtain ⟨h1, h2, h3⟩ := h
  by_cases hk : k = 3 ∨ k = 4 ∨ k = 9
  · have := h1 hk
    rw [this.err hc] at this
    exact this
  · by_cases hk2 : 1 ≤ k ∧ k ≤ 9
    · exact absurd (h2 (by omega)).2 hc
    · exact .ot (by omega) (by omega) (by omega) ⟨fun c => absurd (ok_kind c) hk2, fun _ => ⟨rfl, h3 hk2⟩⟩
theorem WrR.ok {k : Int} {t s : ByteArray} (h : WrR k t s 0) (ho : OkT s k t) : PrR k t s 0 := by
  obtain ⟨h1, h2, h3⟩ := h
  by_cases hk : k = 3 ∨ k = 4 ∨ k = 9
  · exact h1 hk
  · by_cases hk2 : 1 ≤ k ∧ k ≤ 9
    · have e := (h2 (by omega)).1
      rw [e] at ho
      exact .ot (by omega) (by omega) (by omega) ⟨fun _ => ⟨e, rfl⟩, fun c => absurd ho c⟩
    · exact absurd (h3 hk2) (by decide)
theorem WrR.no {k : Int} {t s : ByteArray} (h : WrR k t s 0) (ho : ¬ OkT s k t) : PrR k t empS 120 := by
  obtain ⟨h1, h2, h3⟩ := h
  by_cases hk : k = 3 ∨ k = 4 ∨ k = 9
  · exact absurd (h1 hk).one.ok ho
  · by_cases hk2 : 1 ≤ k ∧ k ≤ 9
    · have e := (h2 (by omega)).1
      rw [e] at ho
      exact .ot (by omega) (by omega) (by omega) ⟨fun c => absurd c ho, fun _ => ⟨rfl, rfl⟩⟩
    · exact absurd (h3 hk2) (by decide)
set_option maxHeartbeats 4000000 in
set_option maxRecDepth 100000 in
theorem rPrint_is (k : Int) (t : ByteArray) (b e l c : Int) (w : World) (hs : t.size ≤ 1048576) : Calls Tryz.prog 20 #[.agg #[.int .i64 k, .string t, .int .i64 b, .int .i64 e, .int .i64 l, .int .i64 c]] w fun r w' => ∃ s c', r = .returned (.tuple #[.string s, .int .i64 c']) ∧ PrR k t s c' ∧ Below w.heap.size w w' := by
  have hB := below_alloc (w := w) (.cells #[.int .i64 k, .string t, .int .i64 b, .int .i64 e, .int .i64 l, .int .i64 c] 23)
  have qT := Blk.new w #[.int .i64 k, .string t, .int .i64 b, .int .i64 e, .int .i64 l, .int .i64 c] 23
  have eW : (w.alloc (.cells #[.int .i64 k, .string t, .int .i64 b, .int .i64 e, .int .i64 l, .int .i64 c] 23)).heap.size = w.heap.size + 1 := by simp
  go_enter Tryz.func20, Tryz.ntmps20
  go_upto_region 1 with fail
  generalize w.alloc (.cells #[.int .i64 k, .string t, .int .i64 b, .int .i64 e, .int .i64 l, .int .i64 c] 23) = W at hB qT eW ⊢
  have t0 := qT.cell 0
  have t1 := qT.cell 1
  have t2 := qT.cell 2
  have t3 := qT.cell 3
  have t4 := qT.cell 4
  have t5 := qT.cell 5
  simp only [List.getElem?_toArray, List.getElem?_cons_zero, List.getElem?_cons_succ] at t0 t1 t2 t3 t4 t5
  have GW := hideT (fun W => written_is k t b e l c W hs)
  go_wp2_with fail
  refine (GW.out _).mono ?_
  rintro e_ w1 ⟨s, c2, rfl, wr, b1⟩
  clear GW t0 t1 t2 t3 t4 t5
  replace qT := qT.later b1
  replace hB := hB.trans (b1.mono hB.size)
  clear b1
  by_cases h0 : c2 = 0
  · subst h0
    have hsz := wr.size
    obtain ⟨r1, r2, _⟩ := rdF_zero (lsB s)
    have GR := hideT (fun W => rread_is s (lsB s) rfl true W (by omega))
    rw [r1, r2] at GR
    clear r1 r2
    have HO : Hid (OkT s k t ↔ ∃ T, (allP (lsB s)).1 = [T] ∧ (allP (lsB s)).2 = 0 ∧ (T.k : Int) = k ∧ T.t = t) := hideT Iff.rfl
    generalize (allP (lsB s)).1 = L at GR HO
    generalize (allP (lsB s)).2 = er at GR HO
    generalize (rdF true (lsB s) 0).2.2 = pl at GR
    have HW := hideT wr
    clear wr
    go_wp2_with fail
    refine (GR.out _).mono ?_
    rintro e_ w2 ⟨v, rfl, own, b2, _⟩
    clear GR
    replace qT := qT.later b2
    replace hB := hB.trans (b2.mono hB.size)
    clear b2
    have t0 := qT.cell 0
    have t1 := qT.cell 1
    simp only [List.getElem?_toArray, List.getElem?_cons_zero, List.getElem?_cons_succ] at t0 t1
    obtain ⟨a0, cp, ev⟩ := own_sl own
    subst ev
    by_cases h0 : er = 0
    · subst h0
      rcases L with _ | ⟨T, _ | ⟨T2, L⟩⟩
      · have HNO := hideT (show ¬ OkT s k t from fun c => by obtain ⟨T, h1, _⟩ := HO.out.1 c; cases h1)
        clear HO own
        go_wp2_with fail
        go_quiet (fail)
        go_wp2
        refine bodyPost_ret (v := .tuple #[.string (⟨#[]⟩), .int .i64 120]) (by rw [results_ttB rfl]; go_simp) rfl ?_
        exact ⟨_, _, rfl, HW.out.no HNO.out, hB.trans ⟨rfl, rfl, rfl, Nat.le_refl _, fun _ _ => rfl⟩⟩
      · rcases own.2 with ⟨_, h0⟩ | ⟨g, p1, r1, hv1, _⟩
        · exact absurd h0 (by simp)
        injection hv1 with hv1 _ hc1
        subst hv1
        subst hc1
        have z0 := own_tok own 0 0 (by simp) (by decide)
        have z1 := own_tok own 0 1 (by simp) (by decide)
        simp only [List.getElem_cons_zero, Tok.cells, List.getElem?_cons_zero, List.getElem?_cons_succ, Nat.zero_mul, Nat.zero_add] at z0 z1
        clear own
        by_cases hk : (T.k : Int) = k
        · have xk : ((T.k : Int) != k) = false := by rw [hk]; simp
          by_cases ht : T.t = t
          · have HOK := hideT (HW.out.ok (HO.out.2 ⟨T, rfl, rfl, hk, ht⟩))
            clear HO HW
            subst ht
            clear hk
            go_wp2_with fail
            go_quiet (fail)
            go_wp2
            refine bodyPost_ret (v := .tuple #[.string (s), .int .i64 0]) (by rw [results_ttB rfl]; go_simp) rfl ?_
            exact ⟨_, _, rfl, HOK.out, hB.trans ⟨rfl, rfl, rfl, Nat.le_refl _, fun _ _ => rfl⟩⟩
          · have HNO := hideT (show ¬ OkT s k t from fun c => by obtain ⟨T1, h1, _, _, h4⟩ := HO.out.1 c; injection h1 with h1 _; rw [h1] at ht; exact ht h4)
            clear HO
            have xt : (T.t.toList == t.toList) = false := by rw [beq_eq_false_iff_ne]; intro cc; exact ht (by apply ByteArray.ext; rw [ByteArray.toList_eq, ByteArray.toList_eq] at cc; exact Array.toList_inj.1 cc)
            clear ht hk
            go_wp2_with fail
            go_quiet (fail)
            go_wp2
            refine bodyPost_ret (v := .tuple #[.string (⟨#[]⟩), .int .i64 120]) (by rw [results_ttB rfl]; go_simp) rfl ?_
            exact ⟨_, _, rfl, HW.out.no HNO.out, hB.trans ⟨rfl, rfl, rfl, Nat.le_refl _, fun _ _ => rfl⟩⟩
        · have xk : ((T.k : Int) != k) = true := by rw [bne_iff_ne]; exact hk
          have HNO := hideT (show ¬ OkT s k t from fun c => by obtain ⟨T1, h1, _, h3, _⟩ := HO.out.1 c; injection h1 with h1 _; rw [h1] at hk; exact hk h3)
          clear HO hk
          go_wp2_with fail
          go_quiet (fail)
          go_wp2
          refine bodyPost_ret (v := .tuple #[.string (⟨#[]⟩), .int .i64 120]) (by rw [results_ttB rfl]; go_simp) rfl ?_
          exact ⟨_, _, rfl, HW.out.no HNO.out, hB.trans ⟨rfl, rfl, rfl, Nat.le_refl _, fun _ _ => rfl⟩⟩
      · have HNO := hideT (show ¬ OkT s k t from fun c => by obtain ⟨T1, h1, _⟩ := HO.out.1 c; injection h1 with _ h1; cases h1)
        have xl : (((T :: T2 :: L).length : Int) != 1) = true := by rw [bne_iff_ne]; simp only [List.length_cons]; omega
        clear HO own
        generalize (T :: T2 :: L).length = nl at xl ⊢
        go_wp2_with fail
        go_quiet (fail)
        go_wp2
        refine bodyPost_ret (v := .tuple #[.string (⟨#[]⟩), .int .i64 120]) (by rw [results_ttB rfl]; go_simp) rfl ?_
        exact ⟨_, _, rfl, HW.out.no HNO.out, hB.trans ⟨rfl, rfl, rfl, Nat.le_refl _, fun _ _ => rfl⟩⟩
    · have x0 : (er != 0) = true := by rw [bne_iff_ne]; exact h0
      have HNO := hideT (show ¬ OkT s k t from fun c => by obtain ⟨T1, _, h2, _⟩ := HO.out.1 c; exact h0 h2)
      clear HO own h0
      go_wp2_with fail
      go_quiet (fail)
      go_wp2
      refine bodyPost_ret (v := .tuple #[.string (⟨#[]⟩), .int .i64 120]) (by rw [results_ttB rfl]; go_simp) rfl ?_
      exact ⟨_, _, rfl, HW.out.no HNO.out, hB.trans ⟨rfl, rfl, rfl, Nat.le_refl _, fun _ _ => rfl⟩⟩
  · have x0 : (c2 != 0) = true := by rw [bne_iff_ne]; exact h0
    have HW := hideT (wr.bad h0)
    clear wr h0
    go_wp2
    refine bodyPost_ret (v := .tuple #[.string (⟨#[]⟩), .int .i64 c2]) (by rw [results_ttB rfl]; go_simp) rfl ?_
    exact ⟨_, _, rfl, HW.out, hB⟩

end Go.Proofs.YtpfmamimhhnbiaaGreatDoor
