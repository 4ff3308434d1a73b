/-
  Layer 1's texts: the reference's Text, whole.
-/
import Derived.Test.YtancpkegjgmlmaaDoorWTG
import Derived.Test.YtancpkegjgmlmaaDoorWT7
import Derived.Deep.AppendLies
import Derived.OwnWalk
namespace Go.Proofs.YtancpkegjgmlmaaDoor
open Go.RowKit
set_option linter.unusedVariables false

theorem tx_zero {b : Nat} (hb : 2 ≤ b) : isTx b 0 ⟨#[48]⟩ := by
  refine ⟨by decide, Nat.pow_pos (by omega), .inl rfl, fun j hj => ?_⟩
  have : j = 0 := by have : j < 1 := hj; omega
  subst this
  unfold dgt
  rw [Nat.zero_div, Nat.zero_mod]
  rfl
set_option maxHeartbeats 4000000 in
set_option maxRecDepth 100000 in
theorem rText_any (a : Option Addr) (n cap X b : Nat) (hb0 : 2 ≤ b) (hb : b ≤ 16) (w : World) (hn : n ≤ 1073741824) (hS : Seg w a X n) :
    Calls Tryd.prog 24 #[.slice a n cap, .int .i64 b] w fun e w' => ∃ t, e = .returned (.tuple #[.string t, .int .i64 0]) ∧ isTx b X t ∧ Below w.heap.size w w' := by
  have e1 : ¬ ((b : Int) < 2) := by omega
  have e2 : ¬ ((16 : Int) < (b : Int)) := by omega
  have hl := ln_le_of_lt hS.1
  have HX := hide' hS.1
  obtain ⟨i0, hi, hz0, hz1, hz2⟩ := info_u8
  go_enter Tryd.func24, Tryd.ntmps24
  go_wp2_with fail
  refine (rNorm_any a n cap X w (by omega) hS).mono ?_
  rintro e w1 ⟨a1, rfl, h1⟩
  have b1 := h1.below
  have ba := below_alloc (w := w1) (.cells #[] 5)
  have hRt : Rt w (w1.alloc (.cells #[] 5)) b X 0 X a1 (.slice (some ⟨w1.heap.size, 0, none⟩) 0 0) := by
    have hh : (w1.alloc (.cells #[] 5)).heap[w1.heap.size]? = some (.cells #[] 5 (0, 0)) := by
      show (w1.heap.push _)[w1.heap.size]? = _
      rw [Array.getElem?_push, if_pos rfl]
    refine ⟨segL ba h1.seg, ⟨by simp [rl], .inr ⟨w1.heap.size, 0, #[], rfl, b1.size, hh, Nat.le_refl _, Nat.zero_le _, rfl, by simp [rl]⟩⟩, fun hn g hg o => ?_, b1.trans (ba.mono b1.size), by rw [Nat.pow_zero, Nat.div_one], .inl rfl⟩
    have e : g = w1.heap.size := by simpa [Value.ownBlock] using hg.symm
    subst e
    exact h1.seg.ne_new hn (Nat.le_refl _) o
  go_wp2_with fail
  generalize w1.alloc (.cells #[] 5) = W at ba hRt ⊢
  go_loopw [0, 6] (fun av v wr => ∃ k Y ao, av = .slice ao (ln Y) (ln Y) ∧ Rt w wr b X k Y ao v) (fun _ v _ => 1099511627776 - lenV v)
  case atStart => exact ⟨0, X, a1, rfl, hRt⟩
  case round =>
    obtain ⟨k, Y, ao, rfl, hR⟩ := hrel
    obtain ⟨av, cv, rfl⟩ := hR.len
    have hk := hR.room hb0 HX.out
    by_cases hY : Y = 0
    · subst hY
      have hleft : X < b ^ k := by
        have := hR.left
        rcases Nat.lt_or_ge X (b ^ k) with h | h
        · exact h
        · have h3 : 0 < X / b ^ k := Nat.div_pos h (Nat.pow_pos (by omega))
          rw [← this] at h3
          exact absurd h3 (by decide)
      rw [ln_zero]
      by_cases hk0 : k = 0
      · subst hk0
        have hX0 : X = 0 := by rw [Nat.pow_zero] at hleft; omega
        subst hX0
        go_wp2
        go_ret2
        exact ⟨_, rfl, tx_zero hb0, hR.below⟩
      · have hkp : 0 < k := by omega
        have hki : ¬ ((k : Int) = 0) := by omega
        have hki2 : ((k : Int) == 0) = false := by rw [beq_eq_false_iff_ne]; omega
        obtain ⟨g, cur, rfl, hglt, hcells⟩ : ∃ g cur, av = some ⟨g, 0, none⟩ ∧ wr.heap[g]? = some (.cells cur 5 (0, 0)) ∧ ∀ i, i < k → wr.cell? ⟨g, i, none⟩ = some (.int .u8 ((dch (X / b ^ i % b) : Nat) : Int)) := by
          rcases hR.own.2 with ⟨_, h0⟩ | ⟨g, cap', cur, hv, _, hg, hcap, _, hsz, htk⟩
          · exact absurd h0 hk0
          · simp only [Value.slice.injEq] at hv
            refine ⟨g, cur, hv.1, hg, fun i hi => ?_⟩
            rw [cell_of_row wr g i cur _ _ hg]
            have := rl_at (b := b) (X := X) hi
            rw [← htk, List.getElem?_take_of_lt (by omega)] at this
            simpa using this
        have hlast : 0 + 1 = k ∨ dgt b X k 0 ≠ 0 := by
          right
          have h1 := hR.top.resolve_left hk0
          have h2 : X / b ^ (k - 1) < b := by
            rw [Nat.div_lt_iff_lt_mul (Nat.pow_pos (by omega)), Nat.mul_comm, ← Nat.pow_succ, show (k - 1).succ = k by omega]; exact hleft
          have h3 : 0 < X / b ^ (k - 1) := Nat.div_pos h1 (Nat.pow_pos (by omega))
          unfold dgt
          rw [Nat.sub_zero, Nat.mod_eq_of_lt h2]
          exact Nat.pos_iff_ne_zero.1 h3
        have HTX := hide' (tl_isTx hb0 hb hleft hkp (fun j hj => absurd hj (by omega)) hlast)
        have HCL := hide' hcells
        have hgs : g < wr.heap.size := (Array.getElem?_eq_some_iff.1 hglt).1
        have hbel := hR.below
        clear hlast hcells hleft hR hglt
        go_wp2_with fail
        rw [mkB k (by omega)]
        simp only [Result.andThen]
        rw [Oper.upon_value]
        have b4 := below_alloc (w := wr) (.cells (madeCells #[.int .u8 0] k) 5)
        have r4 := row_new wr (madeCells #[.int .u8 0] k) 5
        have ex4 : ∀ j, j < k → ∃ c, (wr.alloc (.cells (madeCells #[.int .u8 0] k) 5)).cell? ⟨wr.heap.size, 0 + j, none⟩ = some c := fun j hj => ⟨_, mkB_cell k _ j wr hj⟩
        generalize wr.alloc (.cells (madeCells #[.int .u8 0] k) 5) = W4 at b4 r4 ex4 ⊢
        have HC4 := hide' (fun i (hi : i < k) => cellL b4 (HCL.out i hi))
        have bel4 := hbel.trans (b4.mono hbel.size)
        have hwG := hbel.size
        have hg4 : g < W4.heap.size := Nat.lt_of_lt_of_le hgs b4.size
        clear HCL hbel b4
        generalize wr.heap.size = G at r4 ex4 hgs hwG ⊢
        have EX := hide' ex4
        clear ex4
        go_wp2_with fail
        go_loopw [9] (fun i wx => ∃ m : Nat, m ≤ k ∧ i = .int .i64 m ∧ Wr G 0 (0 + k) W4 wx ∧ (∀ j, j < k → ∃ c, wx.cell? ⟨G, 0 + j, none⟩ = some c) ∧ ∀ j, k ≤ j + m → j < k → wx.cell? ⟨G, 0 + j, none⟩ = some (.int .u8 (dch (dgt b X k j) : Nat))) (fun i _ => k - (intOf i).toNat)
        case atStart => exact ⟨0, Nat.zero_le _, rfl, Wr.refl _ _ _ _, EX.out, fun j h1 h2 => by omega⟩
        case round =>
          obtain ⟨m, hm, rfl, hwr, hex, hj⟩ := hrel
          have HE := hide' hex
          have HJ := hide' hj
          clear hex hj
          by_cases hmk : m < k
          · obtain ⟨q, hq⟩ : ∃ q, k - 1 - m = q := ⟨_, rfl⟩
            have hmki : (m : Int) < (k : Int) := by omega
            have hqk : (q : Int) < (k : Int) := by omega
            have hq0 : (0 : Int) ≤ (q : Int) := by omega
            have hqk2 : q < k := by omega
            have hbk : wr.cell? ⟨g, m, none⟩ = some (.int .u8 ((dch (X / b ^ m % b) : Nat) : Int)) := by
              rw [World.cell?_of_block (hwr.other g hg4 (by omega))]
              exact HC4.out m hmk
            obtain ⟨cw, hcw⟩ := HE.out q hqk2
            rw [Nat.zero_add] at hcw
            have hcw2 : wr.cell? ⟨G, k - 1 - m, none⟩ = some cw := by rw [hq]; exact hcw
            have hfz := fun o => (hwr.row r4).frozen o
            obtain ⟨D, hD⟩ : ∃ D, X / b ^ m % b = D := ⟨_, rfl⟩
            rw [hD] at hbk
            have hdq : dgt b X k q = D := by unfold dgt; rw [show k - 1 - q = m by omega, hD]
            have HQ := hide' hq
            have HDQ := hide' hdq
            have v1 : wrap64 ((k : Int) - 1) = (k : Int) - 1 := by clear hD; unfold wrap64; omega
            have v2 : wrap64 ((k : Int) - 1 - (m : Int)) = (q : Int) := by clear hD v1; unfold wrap64; omega
            clear hD hq hdq
            go_wp2
            clear v1 v2
            have hq := HQ.out
            (try rw [hq])
            refine ⟨⟨m + 1, by omega, by go_num, ?_, fun j hj => ?_, fun j h1 h2 => ?_⟩, by simp [intOf]; omega⟩
            · have := hwr.setCell (0 + q) (by omega) (by omega) (.int .u8 ((dch D : Nat) : Int))
              rw [Nat.zero_add] at this
              simpa using this
            · rw [Nat.zero_add]
              by_cases e : j = q
              · subst e; exact ⟨_, World.cell?_setCell_same _ _ _ hcw⟩
              · obtain ⟨c, hcj⟩ := HE.out j hj
                rw [Nat.zero_add] at hcj
                exact ⟨c, by rw [World.cell?_setCell_other _ _ _ _ (fun e' => e (by simp at e' <;> omega))]; exact hcj⟩
            · rw [Nat.zero_add]
              by_cases e : j = q
              · subst e
                rw [World.cell?_setCell_same _ _ _ hcw, HDQ.out]
              · have := HJ.out j (by omega) h2
                rw [Nat.zero_add] at this
                rw [World.cell?_setCell_other _ _ _ _ (fun e' => e (by simp at e' <;> omega))]
                exact this
          · obtain rfl : m = k := by omega
            have hcv := fun cap => run_convert_bytes_back (P := Tryd.prog) wr 62 9 5 ⟨G, 0, none⟩ cap (tl b X m 0) Tryd.underlying62 Tryd.underlying5 Tryd.underlying9 (fun j hj => by
              rw [tl_length, Nat.sub_zero] at hj
              have h1 := HJ.out j (by omega) hj
              rw [tl_at hb0 hb (by rw [tl_length]; omega), Nat.zero_add]
              have : (⟨G, 0, none⟩ : Addr).add j = ⟨G, 0 + j, none⟩ := by unfold Addr.add; split <;> simp_all
              rw [this]
              exact h1)
            rw [tl_length, Nat.sub_zero] at hcv
            go_wp2
            go_ret2
            exact ⟨_, rfl, HTX.out, bel4.trans (hwr.below hwG bel4.size)⟩
    · have hlY : 0 < ln Y := Nat.pos_of_ne_zero (fun e => hY (ln_eq_zero.1 e))
      have hlYi : (0 : Int) < (ln Y : Int) := by omega
      have hYX : ln Y ≤ n := Nat.le_trans (ln_mono (by rw [hR.left]; exact Nat.div_le_self _ _)) hl
      obtain ⟨g1, o1, rfl, _, _⟩ := hR.seg.2 hlY
      have HT := hide' (tenth_any g1 o1 (ln Y) (ln Y) Y b wr (by omega) hlY hb0 hb hR.seg)
      obtain ⟨M, hM⟩ : ∃ M, Y % b = M := ⟨_, rfl⟩
      have hM16 : M < 16 := by rw [← hM]; exact Nat.lt_of_lt_of_le (Nat.mod_lt _ (by omega)) hb
      rw [hM] at HT
      have hat := DS_at M hM16
      have hM16i : (M : Int) < 16 := by omega
      have hsz : (⟨#[48, 49, 50, 51, 52, 53, 54, 55, 56, 57, 97, 98, 99, 100, 101, 102]⟩ : ByteArray).size = 16 := rfl
      have HM := hide' hM
      clear hM
      go_wp2_with fail
      refine HT.out.mono ?_
      rintro e w2 ⟨aq, rfl, h2⟩
      have ba2 := below_alloc (w := w2) (.cells #[.int .u8 ((dch M : Nat) : Int)] 5)
      have own2 := ownsL ba2 (ownsL h2.below hR.own)
      have newa : (w2.alloc (.cells #[.int .u8 ((dch M : Nat) : Int)] 5)).heap[w2.heap.size]? = some (.cells #[.int .u8 ((dch M : Nat) : Int)] 5 (0, 0)) := by
        show (w2.heap.push _)[w2.heap.size]? = _
        rw [Array.getElem?_push, if_pos rfl]
      have hza : (w2.alloc (.cells #[.int .u8 ((dch M : Nat) : Int)] 5)).heap.size = w2.heap.size + 1 := World.size_alloc _ _
      have hBB : w.heap.size ≤ (w2.alloc (.cells #[.int .u8 ((dch M : Nat) : Int)] 5)).heap.size := Nat.le_trans (Nat.le_trans hR.below.size h2.below.size) ba2.size
      have HRR := hide' hR
      clear hR hYX
      go_wp2_with (at_builtin; refine wpList_append_lies _ rfl (.tmp 28) (.tmp 31) 62 rfl w.heap.size 5 i0 (.int .u8 0) 1 1 Tryd.underlying62 hi hz0 hz1 hz2 rfl (by decide) (.slice av k cv) k (rl b X k) rfl own2 ⟨w2.heap.size, 0, none⟩ 1 1 [.int .u8 ((dch M : Nat) : Int)] rfl rfl (World.news_of_block (cs := #[.int .u8 ((dch M : Nat) : Int)]) newa) (by intro u hu; simp at hu; subst hu; rfl) (by omega) (by unfold maxLen; omega) (by omega) hBB (w2.heap.size + 1) hza ?_; intro g cap3 w3 hown hgrow hat3 hlt3)
      have hNx := HRR.out.next hb0 hY h2 (by rw [HM.out]; exact hown) (by rw [HM.out]; exact hgrow) hat3
      exact ⟨⟨k + 1, Y / b, aq, rfl, hNx⟩, by simp only [lenV]; omega⟩
end Go.Proofs.YtancpkegjgmlmaaDoor
