/-
  Layer 3: Text, of both sides.
-/
import Derived.Test.YtjbeagbkjmaeeaaGreatDoorWTD
import Derived.Test.YtjbeagbkjmaeeaaGreatDoorW3
import Derived.Test.YtjbeagbkjmaeeaaGreatDoorWT7
import Derived.Deep.AppendLies
import Derived.OwnWalk
import Derived.Test.YtjbeagbkjmaeeaaGreatDoorWU1
import Derived.Test.YtjbeagbkjmaeeaaGreatDoorWI4
import Derived.Test.YtjbeagbkjmaeeaaGreatDoorWUA
import Derived.Test.YtjbeagbkjmaeeaaGreatDoorWQN
import Derived.Test.YtjbeagbkjmaeeaaGreatDoorWQ7
namespace Go.Proofs.YtjbeagbkjmaeeaaGreatDoor
open Go.RowKit
set_option linter.unusedVariables false

set_option maxHeartbeats 4000000 in
theorem tenth_any (b1 o1 n cap X y : Nat) (w : World) (hm : n ≤ 70368744177664) (hn : 0 < n) (hy : 2 ≤ y) (hy16 : y ≤ 16) (hS : Seg w (some ⟨b1, o1, none⟩) X n) :
    Calls Tryz.prog 120 #[.slice (some ⟨b1, o1, none⟩) n cap, .int .i64 y] w fun e w' => ∃ aq, e = .returned (.tuple #[.slice aq (ln (X / y)) (ln (X / y)), .int .i64 ((X % y : Nat) : Int)]) ∧ New w w' aq (X / y) (ln (X / y)) := by
  have hb1 := hS.lt hn
  have hZ : X / y < BB ^ n := Nat.lt_of_le_of_lt (Nat.div_le_self _ _) hS.1
  have HZ : Hid (X / y < BB ^ n) := hZ
  have m0 : IntKind.u64.wrap (y : Int) = (y : Int) := wrapU (by omega)
  clear hZ
  go_enter Tryz.func120, Tryz.ntmps120
  go_wp2_with (at_make; refine mk_law _ rfl _ _ rfl _ n rfl rfl rfl hm ?_; intro w1 hnew hrow)
  have hlt1 := hrow.lt
  go_loopw [7, 8] (fun c i wr => ∃ k : Nat, k ≤ n ∧ i = .int .i64 ((k : Int) - 1) ∧ c = .int .u64 (rcy X y k : Nat) ∧ Wr w.heap.size 0 (0 + n) w1 wr ∧ Seg wr (some ⟨w.heap.size, 0, none⟩) (mix 0 (X / y) k) n) (fun _ i _ => (intOf i + 1).toNat)
  case atStart => exact ⟨n, Nat.le_refl _, rfl, by unfold rcy; rw [div_big hS.1, Nat.zero_mod]; rfl, Wr.refl _ _ _ _, by rw [mix_full HZ.out (BBp n)]; exact hnew.seg⟩
  case round =>
    obtain ⟨k, hk, rfl, rfl, hwr, hseg⟩ := hrel
    have hB : Below w.heap.size w wr := hnew.below.trans (hwr.below (Nat.le_refl _) hnew.below.size)
    by_cases hlt : 0 < k
    · obtain ⟨j, rfl⟩ : ∃ j, k = j + 1 := ⟨k - 1, by omega⟩
      have hcast : ((j + 1 : Nat) : Int) - 1 = (j : Nat) := by omega
      rw [hcast]
      have hcy := rcy_lt (show 0 < y by omega) X (j + 1)
      have hcx := hseg.cells j (by omega)
      rw [Nat.zero_add] at hcx
      have hfz := fun o => (hwr.row hrow).frozen o
      have hcell := (hS.below hB (Nat.le_refl _)).cells j (by omega)
      have h2 := dg_lt X j
      obtain ⟨t, ht⟩ : ∃ t, t = rcy X y (j + 1) * 4294967296 + dg X j := ⟨_, rfl⟩
      have htl : t < 18446744073709551616 := by omega
      have e0 : bits BinOp.or IntKind.u64 (((rcy X y (j + 1) : Nat) : Int) * 4294967296) ((dg X j : Nat) : Int) = (t : Nat) := by rw [ht]; exact or_high (by omega) h2
      have E1 : Hid (t / y % 4294967296 = dg (X / y) j) := by show _ = _; rw [ht]; exact lim_dg X y j
      have E2 : Hid (t % y = rcy X y j) := by show _ = _; rw [ht]; exact lim_cy X y j
      have hyz : (1 : Int) ≤ (y : Int) := by omega
      have HW := wrap_div (b := y) htl
      have hc32 : rcy X y (j + 1) < 4294967296 := by omega
      clear hcy ht
      go_wp2
      go_roundw
      case rel =>
        have e1 := E1.out
        refine ⟨j, by omega, by go_num, ?_, ?_, ?_⟩
        · rw [← E2.out]; simp
        · have := hwr.setCell (0 + j) (by omega) (by omega) (.int .u32 (((t / y : Nat) : Int) % 4294967296))
          rw [Nat.zero_add] at this
          simpa using this
        · have := hseg.setDown (by omega) HZ.out (v := ((t / y : Nat) : Int) % 4294967296) (by rw [← e1]; simp)
          rw [Nat.zero_add] at this
          simpa using this
      case measure => simp [intOf]
    · have hk0 : k = 0 := by omega
      subst hk0
      rw [mix_zero] at hseg
      have hr0 : rcy X y 0 = X % y := by unfold rcy; rw [Nat.pow_zero, Nat.div_one]
      obtain ⟨R, hR⟩ : ∃ R, X % y = R := ⟨_, rfl⟩
      obtain ⟨D, hD⟩ : ∃ D, X / y = D := ⟨_, rfl⟩
      have hr32 : R < 16 := by rw [← hR]; exact Nat.lt_of_lt_of_le (Nat.mod_lt _ (by omega)) hy16
      rw [hr0, hR]
      rw [hD] at hseg
      have wR : IntKind.i64.wrap (R : Int) = (R : Int) := by rw [IntKind.wrap_i64]; omega
      have HNm := hide' (rNorm_any (some ⟨w.heap.size, 0, none⟩) n n D wr (by omega) hseg)
      have HRR := hide' hR
      have HDD := hide' hD
      clear hr0 hR hD HZ
      go_wp2_with fail
      refine HNm.out.mono ?_
      rintro e w4 ⟨a4, rfl, h4⟩
      go_wp2
      go_ret2
      rw [HRR.out, HDD.out]
      exact ⟨a4, rfl, h4.back hB⟩
end Go.Proofs.YtjbeagbkjmaeeaaGreatDoor

namespace Go.Proofs.YtjbeagbkjmaeeaaGreatDoor
open Go.RowKit
set_option linter.unusedVariables false

/-- the k lowest digits' bytes, from the lowest on -/
def rl (b X k : Nat) : List Value := (List.range k).map fun i => .int .u8 ((dch (X / b ^ i % b) : Nat) : Int)
theorem rl_succ (b X k : Nat) : rl b X (k + 1) = rl b X k ++ [.int .u8 ((dch (X / b ^ k % b) : Nat) : Int)] := by simp [rl, List.range_succ]
theorem rl_at {b X k i : Nat} (h : i < k) : (rl b X k)[i]? = some (.int .u8 ((dch (X / b ^ i % b) : Nat) : Int)) := by simp [rl, h]
def lenV : Value → Nat
  | .slice _ l _ => l
  | _ => 0
theorem info_u8 : ∃ i, Tryz.prog.info? 5 = some i ∧ i.zero = some (.int .u8 0) ∧ i.size = 1 ∧ i.bytes = 1 := by
  have h : (Tryz.prog.info? 5).map (fun i => (i.zero, i.size, i.bytes)) = some (some (.int .u8 0), 1, 1) := by kernel_rfl
  cases hi : Tryz.prog.info? 5 with
  | none => rw [hi] at h; cases h
  | some i =>
    rw [hi] at h
    simp only [Option.map_some, Option.some.injEq, Prod.mk.injEq] at h
    exact ⟨i, rfl, h.1, h.2.1, h.2.2⟩
/-- the state of the reference's loop: k digits are told, Y is left -/
structure Rt (w wr : World) (b X k Y : Nat) (ao : Option Addr) (v : Value) : Prop where
  seg : Seg wr ao Y (ln Y)
  own : wr.ownsRow w.heap.size 5 1 v k (rl b X k)
  off : 0 < ln Y → Away ao v
  below : Below w.heap.size w wr
  left : Y = X / b ^ k
  top : k = 0 ∨ b ^ (k - 1) ≤ X
theorem Rt.room {w wr : World} {b X k Y n : Nat} {ao : Option Addr} {v : Value} (h : Rt w wr b X k Y ao v) (hb : 2 ≤ b) (hX : X < BB ^ n) : k ≤ 32 * n + 1 := by
  rcases h.top with h1 | h1
  · omega
  · have h2 : 2 ^ (k - 1) ≤ X := Nat.le_trans (Nat.pow_le_pow_left hb _) h1
    rw [BB_eq, show (4294967296 : Nat) = 2 ^ 32 by decide, ← Nat.pow_mul] at hX
    have h3 := (Nat.pow_lt_pow_iff_right (a := 2) (by decide)).1 (Nat.lt_of_le_of_lt h2 hX)
    clear h1 h2 hX
    omega
theorem Rt.len {w wr : World} {b X k Y : Nat} {ao : Option Addr} {v : Value} (h : Rt w wr b X k Y ao v) : ∃ av cap, v = .slice av k cap := by
  rcases h.own.2 with ⟨rfl, rfl⟩ | ⟨g, cap, cur, rfl, _⟩
  · exact ⟨_, _, rfl⟩
  · exact ⟨_, _, rfl⟩
/-- behind one digit more -/
theorem Rt.next {w wr w1 w2 : World} {b X k Y g cap : Nat} {ao aq : Option Addr} {v : Value} (h : Rt w wr b X k Y ao v) (hb : 2 ≤ b) (hY : Y ≠ 0) (h1 : New wr w1 aq (Y / b) (ln (Y / b)))
    (hown : w2.ownsRow w.heap.size 5 1 (.slice (some ⟨g, 0, none⟩) (k + 1) cap) (k + 1) (rl b X k ++ [.int .u8 ((dch (Y % b) : Nat) : Int)])) (hgrow : (w1.alloc (.cells #[.int .u8 ((dch (Y % b) : Nat) : Int)] 5)).grownBy w2 v.ownBlock) (hat : v.ownBlock = some g ∨ g = w1.heap.size + 1) :
    Rt w w2 b X (k + 1) (Y / b) aq (.slice (some ⟨g, 0, none⟩) (k + 1) cap) := by
  have ba := below_alloc (w := w1) (.cells #[.int .u8 ((dch (Y % b) : Nat) : Int)] 5)
  have hvlt : ∀ g', v.ownBlock = some g' → g' < wr.heap.size := fun g' hg' => by
    rcases h.own.2 with ⟨rfl, _⟩ | ⟨g2, cap2, cur, rfl, _, hg2, _⟩
    · cases hg'
    · have : g2 = g' := by simpa [Value.ownBlock] using hg'
      subst this
      exact (Array.getElem?_eq_some_iff.1 hg2).1
  have away : 0 < ln (Y / b) → Away aq v := fun hn g' hg' => h1.off (hvlt g' hg') hn
  have seg2 : Seg w2 aq (Y / b) (ln (Y / b)) := by
    by_cases hn : 0 < ln (Y / b)
    · exact (segL ba h1.seg).grown hgrow (away hn)
    · have := h1.seg.1
      obtain hz : ln (Y / b) = 0 := by omega
      rw [hz] at this ⊢
      exact ⟨this, fun h => absurd h (by omega)⟩
  refine ⟨seg2, ?_, fun hn g' hg' o => ?_, ?_, ?_, .inr ?_⟩
  · rw [rl_succ, ← h.left]; exact hown
  · have e : g' = g := by simpa [Value.ownBlock] using hg'.symm
    subst e
    rcases hat with h2 | h2
    · exact away hn g' h2 o
    · exact h1.seg.ne_new hn (by omega) o
  · have b1 := h.below.trans (h1.below.mono h.below.size)
    have b2 := b1.trans (ba.mono b1.size)
    exact b2.trans (grown_below hgrow b2.size (fun g' hg' => owns_ge h.own hg'))
  · rw [h.left, Nat.div_div_eq_div_mul, ← Nat.pow_succ]
  · rw [Nat.add_sub_cancel]
    rcases Nat.lt_or_ge X (b ^ k) with h2 | h2
    · exact absurd (by rw [h.left, Nat.div_eq_of_lt h2]) hY
    · exact h2
end Go.Proofs.YtjbeagbkjmaeeaaGreatDoor

namespace Go.Proofs.YtjbeagbkjmaeeaaGreatDoor
open Go.RowKit
set_option linter.unusedVariables false

theorem tx_zero {b : Nat} (hb : 2 ≤ b) : isTx b 0 ⟨#[48]⟩ := by
  refine ⟨by decide, Nat.pow_pos (by omega), .inl rfl, fun j hj => ?_⟩
  have : j = 0 := by have : j < 1 := hj; omega
  subst this
  unfold dgt
  rw [Nat.zero_div, Nat.zero_mod]
  rfl
set_option maxHeartbeats 4000000 in
set_option maxRecDepth 100000 in
theorem rText_any (a : Option Addr) (n cap X b : Nat) (hb0 : 2 ≤ b) (hb : b ≤ 16) (w : World) (hn : n ≤ 1073741824) (hS : Seg w a X n) :
    Calls Tryz.prog 95 #[.slice a n cap, .int .i64 b] w fun e w' => ∃ t, e = .returned (.tuple #[.string t, .int .i64 0]) ∧ isTx b X t ∧ Below w.heap.size w w' := by
  have e1 : ¬ ((b : Int) < 2) := by omega
  have e2 : ¬ ((16 : Int) < (b : Int)) := by omega
  have hl := ln_le_of_lt hS.1
  have HX := hide' hS.1
  obtain ⟨i0, hi, hz0, hz1, hz2⟩ := info_u8
  go_enter Tryz.func95, Tryz.ntmps95
  go_wp2_with fail
  refine (rNorm_any a n cap X w (by omega) hS).mono ?_
  rintro e w1 ⟨a1, rfl, h1⟩
  have b1 := h1.below
  have ba := below_alloc (w := w1) (.cells #[] 5)
  have hRt : Rt w (w1.alloc (.cells #[] 5)) b X 0 X a1 (.slice (some ⟨w1.heap.size, 0, none⟩) 0 0) := by
    have hh : (w1.alloc (.cells #[] 5)).heap[w1.heap.size]? = some (.cells #[] 5 (0, 0)) := by
      show (w1.heap.push _)[w1.heap.size]? = _
      rw [Array.getElem?_push, if_pos rfl]
    refine ⟨segL ba h1.seg, ⟨by simp [rl], .inr ⟨w1.heap.size, 0, #[], rfl, b1.size, hh, Nat.le_refl _, Nat.zero_le _, rfl, by simp [rl]⟩⟩, fun hn g hg o => ?_, b1.trans (ba.mono b1.size), by rw [Nat.pow_zero, Nat.div_one], .inl rfl⟩
    have e : g = w1.heap.size := by simpa [Value.ownBlock] using hg.symm
    subst e
    exact h1.seg.ne_new hn (Nat.le_refl _) o
  go_wp2_with fail
  generalize w1.alloc (.cells #[] 5) = W at ba hRt ⊢
  go_loopw [0, 6] (fun av v wr => ∃ k Y ao, av = .slice ao (ln Y) (ln Y) ∧ Rt w wr b X k Y ao v) (fun _ v _ => 1099511627776 - lenV v)
  case atStart => exact ⟨0, X, a1, rfl, hRt⟩
  case round =>
    obtain ⟨k, Y, ao, rfl, hR⟩ := hrel
    obtain ⟨av, cv, rfl⟩ := hR.len
    have hk := hR.room hb0 HX.out
    by_cases hY : Y = 0
    · subst hY
      have hleft : X < b ^ k := by
        have := hR.left
        rcases Nat.lt_or_ge X (b ^ k) with h | h
        · exact h
        · have h3 : 0 < X / b ^ k := Nat.div_pos h (Nat.pow_pos (by omega))
          rw [← this] at h3
          exact absurd h3 (by decide)
      rw [ln_zero]
      by_cases hk0 : k = 0
      · subst hk0
        have hX0 : X = 0 := by rw [Nat.pow_zero] at hleft; omega
        subst hX0
        go_wp2
        go_ret2
        exact ⟨_, rfl, tx_zero hb0, hR.below⟩
      · have hkp : 0 < k := by omega
        have hki : ¬ ((k : Int) = 0) := by omega
        have hki2 : ((k : Int) == 0) = false := by rw [beq_eq_false_iff_ne]; omega
        obtain ⟨g, cur, rfl, hglt, hcells⟩ : ∃ g cur, av = some ⟨g, 0, none⟩ ∧ wr.heap[g]? = some (.cells cur 5 (0, 0)) ∧ ∀ i, i < k → wr.cell? ⟨g, i, none⟩ = some (.int .u8 ((dch (X / b ^ i % b) : Nat) : Int)) := by
          rcases hR.own.2 with ⟨_, h0⟩ | ⟨g, cap', cur, hv, _, hg, hcap, _, hsz, htk⟩
          · exact absurd h0 hk0
          · simp only [Value.slice.injEq] at hv
            refine ⟨g, cur, hv.1, hg, fun i hi => ?_⟩
            rw [cell_of_row wr g i cur _ _ hg]
            have := rl_at (b := b) (X := X) hi
            rw [← htk, List.getElem?_take_of_lt (by omega)] at this
            simpa using this
        have hlast : 0 + 1 = k ∨ dgt b X k 0 ≠ 0 := by
          right
          have h1 := hR.top.resolve_left hk0
          have h2 : X / b ^ (k - 1) < b := by
            rw [Nat.div_lt_iff_lt_mul (Nat.pow_pos (by omega)), Nat.mul_comm, ← Nat.pow_succ, show (k - 1).succ = k by omega]; exact hleft
          have h3 : 0 < X / b ^ (k - 1) := Nat.div_pos h1 (Nat.pow_pos (by omega))
          unfold dgt
          rw [Nat.sub_zero, Nat.mod_eq_of_lt h2]
          exact Nat.pos_iff_ne_zero.1 h3
        have HTX := hide' (tl_isTx hb0 hb hleft hkp (fun j hj => absurd hj (by omega)) hlast)
        have HCL := hide' hcells
        have hgs : g < wr.heap.size := (Array.getElem?_eq_some_iff.1 hglt).1
        have hbel := hR.below
        clear hlast hcells hleft hR hglt
        go_wp2_with fail
        rw [mkB k (by omega)]
        simp only [Result.andThen]
        rw [Oper.upon_value]
        have b4 := below_alloc (w := wr) (.cells (madeCells #[.int .u8 0] k) 5)
        have r4 := row_new wr (madeCells #[.int .u8 0] k) 5
        have ex4 : ∀ j, j < k → ∃ c, (wr.alloc (.cells (madeCells #[.int .u8 0] k) 5)).cell? ⟨wr.heap.size, 0 + j, none⟩ = some c := fun j hj => ⟨_, mkB_cell k _ j wr hj⟩
        generalize wr.alloc (.cells (madeCells #[.int .u8 0] k) 5) = W4 at b4 r4 ex4 ⊢
        have HC4 := hide' (fun i (hi : i < k) => cellL b4 (HCL.out i hi))
        have bel4 := hbel.trans (b4.mono hbel.size)
        have hwG := hbel.size
        have hg4 : g < W4.heap.size := Nat.lt_of_lt_of_le hgs b4.size
        clear HCL hbel b4
        generalize wr.heap.size = G at r4 ex4 hgs hwG ⊢
        have EX := hide' ex4
        clear ex4
        go_wp2_with fail
        go_loopw [9] (fun i wx => ∃ m : Nat, m ≤ k ∧ i = .int .i64 m ∧ Wr G 0 (0 + k) W4 wx ∧ (∀ j, j < k → ∃ c, wx.cell? ⟨G, 0 + j, none⟩ = some c) ∧ ∀ j, k ≤ j + m → j < k → wx.cell? ⟨G, 0 + j, none⟩ = some (.int .u8 (dch (dgt b X k j) : Nat))) (fun i _ => k - (intOf i).toNat)
        case atStart => exact ⟨0, Nat.zero_le _, rfl, Wr.refl _ _ _ _, EX.out, fun j h1 h2 => by omega⟩
        case round =>
          obtain ⟨m, hm, rfl, hwr, hex, hj⟩ := hrel
          have HE := hide' hex
          have HJ := hide' hj
          clear hex hj
          by_cases hmk : m < k
          · obtain ⟨q, hq⟩ : ∃ q, k - 1 - m = q := ⟨_, rfl⟩
            have hmki : (m : Int) < (k : Int) := by omega
            have hqk : (q : Int) < (k : Int) := by omega
            have hq0 : (0 : Int) ≤ (q : Int) := by omega
            have hqk2 : q < k := by omega
            have hbk : wr.cell? ⟨g, m, none⟩ = some (.int .u8 ((dch (X / b ^ m % b) : Nat) : Int)) := by
              rw [World.cell?_of_block (hwr.other g hg4 (by omega))]
              exact HC4.out m hmk
            obtain ⟨cw, hcw⟩ := HE.out q hqk2
            rw [Nat.zero_add] at hcw
            have hcw2 : wr.cell? ⟨G, k - 1 - m, none⟩ = some cw := by rw [hq]; exact hcw
            have hfz := fun o => (hwr.row r4).frozen o
            obtain ⟨D, hD⟩ : ∃ D, X / b ^ m % b = D := ⟨_, rfl⟩
            rw [hD] at hbk
            have hdq : dgt b X k q = D := by unfold dgt; rw [show k - 1 - q = m by omega, hD]
            have HQ := hide' hq
            have HDQ := hide' hdq
            have v1 : wrap64 ((k : Int) - 1) = (k : Int) - 1 := by clear hD; unfold wrap64; omega
            have v2 : wrap64 ((k : Int) - 1 - (m : Int)) = (q : Int) := by clear hD v1; unfold wrap64; omega
            clear hD hq hdq
            go_wp2
            clear v1 v2
            have hq := HQ.out
            (try rw [hq])
            refine ⟨⟨m + 1, by omega, by go_num, ?_, fun j hj => ?_, fun j h1 h2 => ?_⟩, by simp [intOf]; omega⟩
            · have := hwr.setCell (0 + q) (by omega) (by omega) (.int .u8 ((dch D : Nat) : Int))
              rw [Nat.zero_add] at this
              simpa using this
            · rw [Nat.zero_add]
              by_cases e : j = q
              · subst e; exact ⟨_, World.cell?_setCell_same _ _ _ hcw⟩
              · obtain ⟨c, hcj⟩ := HE.out j hj
                rw [Nat.zero_add] at hcj
                exact ⟨c, by rw [World.cell?_setCell_other _ _ _ _ (fun e' => e (by simp at e' <;> omega))]; exact hcj⟩
            · rw [Nat.zero_add]
              by_cases e : j = q
              · subst e
                rw [World.cell?_setCell_same _ _ _ hcw, HDQ.out]
              · have := HJ.out j (by omega) h2
                rw [Nat.zero_add] at this
                rw [World.cell?_setCell_other _ _ _ _ (fun e' => e (by simp at e' <;> omega))]
                exact this
          · obtain rfl : m = k := by omega
            have hcv := fun cap => run_convert_bytes_back (P := Tryz.prog) wr 123 9 5 ⟨G, 0, none⟩ cap (tl b X m 0) Tryz.underlying123 Tryz.underlying5 Tryz.underlying9 (fun j hj => by
              rw [tl_length, Nat.sub_zero] at hj
              have h1 := HJ.out j (by omega) hj
              rw [tl_at hb0 hb (by rw [tl_length]; omega), Nat.zero_add]
              have : (⟨G, 0, none⟩ : Addr).add j = ⟨G, 0 + j, none⟩ := by unfold Addr.add; split <;> simp_all
              rw [this]
              exact h1)
            rw [tl_length, Nat.sub_zero] at hcv
            go_wp2
            go_ret2
            exact ⟨_, rfl, HTX.out, bel4.trans (hwr.below hwG bel4.size)⟩
    · have hlY : 0 < ln Y := Nat.pos_of_ne_zero (fun e => hY (ln_eq_zero.1 e))
      have hlYi : (0 : Int) < (ln Y : Int) := by omega
      have hYX : ln Y ≤ n := Nat.le_trans (ln_mono (by rw [hR.left]; exact Nat.div_le_self _ _)) hl
      obtain ⟨g1, o1, rfl, _, _⟩ := hR.seg.2 hlY
      have HT := hide' (tenth_any g1 o1 (ln Y) (ln Y) Y b wr (by omega) hlY hb0 hb hR.seg)
      obtain ⟨M, hM⟩ : ∃ M, Y % b = M := ⟨_, rfl⟩
      have hM16 : M < 16 := by rw [← hM]; exact Nat.lt_of_lt_of_le (Nat.mod_lt _ (by omega)) hb
      rw [hM] at HT
      have hat := DS_at M hM16
      have hM16i : (M : Int) < 16 := by omega
      have hsz : (⟨#[48, 49, 50, 51, 52, 53, 54, 55, 56, 57, 97, 98, 99, 100, 101, 102]⟩ : ByteArray).size = 16 := rfl
      have HM := hide' hM
      clear hM
      go_wp2_with fail
      refine HT.out.mono ?_
      rintro e w2 ⟨aq, rfl, h2⟩
      have ba2 := below_alloc (w := w2) (.cells #[.int .u8 ((dch M : Nat) : Int)] 5)
      have own2 := ownsL ba2 (ownsL h2.below hR.own)
      have newa : (w2.alloc (.cells #[.int .u8 ((dch M : Nat) : Int)] 5)).heap[w2.heap.size]? = some (.cells #[.int .u8 ((dch M : Nat) : Int)] 5 (0, 0)) := by
        show (w2.heap.push _)[w2.heap.size]? = _
        rw [Array.getElem?_push, if_pos rfl]
      have hza : (w2.alloc (.cells #[.int .u8 ((dch M : Nat) : Int)] 5)).heap.size = w2.heap.size + 1 := World.size_alloc _ _
      have hBB : w.heap.size ≤ (w2.alloc (.cells #[.int .u8 ((dch M : Nat) : Int)] 5)).heap.size := Nat.le_trans (Nat.le_trans hR.below.size h2.below.size) ba2.size
      have HRR := hide' hR
      clear hR hYX
      go_wp2_with (at_builtin; refine wpList_append_lies _ rfl (.tmp 28) (.tmp 31) 123 rfl w.heap.size 5 i0 (.int .u8 0) 1 1 Tryz.underlying123 hi hz0 hz1 hz2 rfl (by decide) (.slice av k cv) k (rl b X k) rfl own2 ⟨w2.heap.size, 0, none⟩ 1 1 [.int .u8 ((dch M : Nat) : Int)] rfl rfl (World.news_of_block (cs := #[.int .u8 ((dch M : Nat) : Int)]) newa) (by intro u hu; simp at hu; subst hu; rfl) (by omega) (by unfold maxLen; omega) (by omega) hBB (w2.heap.size + 1) hza ?_; intro g cap3 w3 hown hgrow hat3 hlt3)
      have hNx := HRR.out.next hb0 hY h2 (by rw [HM.out]; exact hown) (by rw [HM.out]; exact hgrow) hat3
      exact ⟨⟨k + 1, Y / b, aq, rfl, hNx⟩, by simp only [lenV]; omega⟩
end Go.Proofs.YtjbeagbkjmaeeaaGreatDoor

namespace Go.Proofs.YtjbeagbkjmaeeaaGreatDoor
open Go.RowKit
set_option linter.unusedVariables false

set_option maxHeartbeats 2000000 in
set_option maxRecDepth 100000 in
theorem vText_pos (a : Option Addr) (n cap X : Nat) (w : World) (hn : n ≤ 1073741824) (hS : Seg w a X n)  : Calls Tryz.prog 62 #[.agg #[.bool false, .slice a n cap]] w fun e w' => ∃ u, e = .returned (.string u) ∧ isTz false X u ∧ Below w.heap.size w w' := by
  obtain ⟨C, hC, hC0⟩ : ∃ C : Int, sgn (sg false X) = C ∧ ¬ (C < 0) := ⟨_, rfl, sgn_up X⟩
  have hl := ln_le_of_lt hS.1
  have H0 := hide' (fun w' k => rNorm_any a n cap X w' (by omega) k)
  have H1 := hide' (fun a' w' k => rText_any a' (ln X) (ln X) X 10 (by omega) (by omega) w' (by omega) k)
  have H2' := fun w' k => vSign_is false a n cap X _ w' (by omega) k rfl
  rw [hC] at H2'
  have H2 := hide' H2'
  clear H2' hC
  go_enter Tryz.func62, Tryz.ntmps62
  go_wp2_with fail
  obtain ⟨W, hW⟩ : ∃ W, (w.alloc (.cells #[.bool false, .slice a n cap] 25)) = W := ⟨_, rfl⟩
  have q00 : W.cell? ⟨w.heap.size, 0, none⟩ = some (.bool false) := by subst hW; go_simp
  have q01 : W.cell? ⟨w.heap.size, 1, none⟩ = some (.slice a n cap) := by subst hW; go_simp
  have hB : Below w.heap.size w W := by subst hW; exact ((Below.refl _ _).alloc (by (try simp only [World.size_alloc]); omega) _)
  have hz : W.heap.size = w.heap.size + 1 := by subst hW; simp only [World.size_alloc]
  rw [hW]
  clear hW
  have hBW : Below W.heap.size W W := Below.refl _ _
  refine (H0.out _ (sb hS hB hBW)).mono ?_
  rintro e w41 ⟨a41, rfl, h41⟩
  have b41 := h41.below
  have g41 := h41.seg
  replace hBW := hBW.trans (b41.mono hBW.size)
  replace q00 := below_cell b41 q00
  replace q01 := below_cell b41 q01
  go_wp2_with fail
  refine (H1.out _ _ g41).mono ?_
  rintro e w42 ⟨t, rfl, hT, b42⟩
  replace hBW := hBW.trans (b42.mono hBW.size)
  replace q00 := below_cell b42 q00
  replace q01 := below_cell b42 q01
  have hts := hT.size_le (by omega) hS.1
  have hts2 : ¬ (9223372036854775807 < 1 + t.size) := by omega
  have hts3 : 1 + t.size ≤ 9223372036854775807 := by omega
  have HT := hide' hT
  clear hT hts
  go_wp2_with fail
  refine (H2.out _ (sb hS hB hBW)).mono ?_
  rintro e w43 ⟨rfl, b43⟩
  replace hBW := hBW.trans (b43.mono hBW.size)
  replace q00 := below_cell b43 q00
  replace q01 := below_cell b43 q01
  go_wp2
  go_ret
  exact ⟨_, rfl, ⟨t, HT.out, by rw [if_neg (by simp)]⟩, hB.trans (hBW.mono hB.size)⟩

set_option maxHeartbeats 2000000 in
set_option maxRecDepth 100000 in
theorem vText_neg (a : Option Addr) (n cap X : Nat) (w : World) (hn : n ≤ 1073741824) (hS : Seg w a X n) (hX : X ≠ 0) : Calls Tryz.prog 62 #[.agg #[.bool true, .slice a n cap]] w fun e w' => ∃ u, e = .returned (.string u) ∧ isTz true X u ∧ Below w.heap.size w w' := by
  obtain ⟨C, hC, hC0⟩ : ∃ C : Int, sgn (sg true X) = C ∧ C < 0 := ⟨_, rfl, by rw [sgn_sg hX]; decide⟩
  have hl := ln_le_of_lt hS.1
  have H0 := hide' (fun w' k => rNorm_any a n cap X w' (by omega) k)
  have H1 := hide' (fun a' w' k => rText_any a' (ln X) (ln X) X 10 (by omega) (by omega) w' (by omega) k)
  have H2' := fun w' k => vSign_is true a n cap X _ w' (by omega) k rfl
  rw [hC] at H2'
  have H2 := hide' H2'
  clear H2' hC
  go_enter Tryz.func62, Tryz.ntmps62
  go_wp2_with fail
  obtain ⟨W, hW⟩ : ∃ W, (w.alloc (.cells #[.bool true, .slice a n cap] 25)) = W := ⟨_, rfl⟩
  have q00 : W.cell? ⟨w.heap.size, 0, none⟩ = some (.bool true) := by subst hW; go_simp
  have q01 : W.cell? ⟨w.heap.size, 1, none⟩ = some (.slice a n cap) := by subst hW; go_simp
  have hB : Below w.heap.size w W := by subst hW; exact ((Below.refl _ _).alloc (by (try simp only [World.size_alloc]); omega) _)
  have hz : W.heap.size = w.heap.size + 1 := by subst hW; simp only [World.size_alloc]
  rw [hW]
  clear hW
  have hBW : Below W.heap.size W W := Below.refl _ _
  refine (H0.out _ (sb hS hB hBW)).mono ?_
  rintro e w41 ⟨a41, rfl, h41⟩
  have b41 := h41.below
  have g41 := h41.seg
  replace hBW := hBW.trans (b41.mono hBW.size)
  replace q00 := below_cell b41 q00
  replace q01 := below_cell b41 q01
  go_wp2_with fail
  refine (H1.out _ _ g41).mono ?_
  rintro e w42 ⟨t, rfl, hT, b42⟩
  replace hBW := hBW.trans (b42.mono hBW.size)
  replace q00 := below_cell b42 q00
  replace q01 := below_cell b42 q01
  have hts := hT.size_le (by omega) hS.1
  have hts2 : ¬ (9223372036854775807 < 1 + t.size) := by omega
  have hts3 : 1 + t.size ≤ 9223372036854775807 := by omega
  have HT := hide' hT
  clear hT hts
  go_wp2_with fail
  refine (H2.out _ (sb hS hB hBW)).mono ?_
  rintro e w43 ⟨rfl, b43⟩
  replace hBW := hBW.trans (b43.mono hBW.size)
  replace q00 := below_cell b43 q00
  replace q01 := below_cell b43 q01
  go_wp2
  go_ret
  exact ⟨_, rfl, ⟨t, HT.out, by rw [if_pos ⟨rfl, hX⟩]⟩, hB.trans (hBW.mono hB.size)⟩

set_option maxHeartbeats 2000000 in
set_option maxRecDepth 100000 in
theorem vText_zero (s : Bool) (a : Option Addr) (n cap X : Nat) (w : World) (hn : n ≤ 1073741824) (hS : Seg w a X n) (hX : X = 0) : Calls Tryz.prog 62 #[.agg #[.bool s, .slice a n cap]] w fun e w' => ∃ u, e = .returned (.string u) ∧ isTz s X u ∧ Below w.heap.size w w' := by
  subst hX
  obtain ⟨C, hC, hC0⟩ : ∃ C : Int, sgn (sg s 0) = C ∧ ¬ (C < 0) := ⟨_, rfl, by cases s <;> decide⟩
  have hl := ln_le_of_lt hS.1
  have H0 := hide' (fun w' k => rNorm_any a n cap 0 w' (by omega) k)
  have H1 := hide' (fun a' w' k => rText_any a' (ln 0) (ln 0) 0 10 (by omega) (by omega) w' (by omega) k)
  have H2' := fun w' k => vSign_is s a n cap 0 _ w' (by omega) k rfl
  rw [hC] at H2'
  have H2 := hide' H2'
  clear H2' hC
  go_enter Tryz.func62, Tryz.ntmps62
  go_wp2_with fail
  obtain ⟨W, hW⟩ : ∃ W, (w.alloc (.cells #[.bool s, .slice a n cap] 25)) = W := ⟨_, rfl⟩
  have q00 : W.cell? ⟨w.heap.size, 0, none⟩ = some (.bool s) := by subst hW; go_simp
  have q01 : W.cell? ⟨w.heap.size, 1, none⟩ = some (.slice a n cap) := by subst hW; go_simp
  have hB : Below w.heap.size w W := by subst hW; exact ((Below.refl _ _).alloc (by (try simp only [World.size_alloc]); omega) _)
  have hz : W.heap.size = w.heap.size + 1 := by subst hW; simp only [World.size_alloc]
  rw [hW]
  clear hW
  have hBW : Below W.heap.size W W := Below.refl _ _
  refine (H0.out _ (sb hS hB hBW)).mono ?_
  rintro e w41 ⟨a41, rfl, h41⟩
  have b41 := h41.below
  have g41 := h41.seg
  replace hBW := hBW.trans (b41.mono hBW.size)
  replace q00 := below_cell b41 q00
  replace q01 := below_cell b41 q01
  go_wp2_with fail
  refine (H1.out _ _ g41).mono ?_
  rintro e w42 ⟨t, rfl, hT, b42⟩
  replace hBW := hBW.trans (b42.mono hBW.size)
  replace q00 := below_cell b42 q00
  replace q01 := below_cell b42 q01
  have hts := hT.size_le (by omega) hS.1
  have hts2 : ¬ (9223372036854775807 < 1 + t.size) := by omega
  have hts3 : 1 + t.size ≤ 9223372036854775807 := by omega
  have HT := hide' hT
  clear hT hts
  go_wp2_with fail
  refine (H2.out _ (sb hS hB hBW)).mono ?_
  rintro e w43 ⟨rfl, b43⟩
  replace hBW := hBW.trans (b43.mono hBW.size)
  replace q00 := below_cell b43 q00
  replace q01 := below_cell b43 q01
  go_wp2
  go_ret
  exact ⟨_, rfl, ⟨t, HT.out, by rw [if_neg (by simp)]⟩, hB.trans (hBW.mono hB.size)⟩

theorem vText_any (s : Bool) (a : Option Addr) (n cap X : Nat) (w : World) (hn : n ≤ 1073741824) (hS : Seg w a X n) : Calls Tryz.prog 62 #[.agg #[.bool s, .slice a n cap]] w fun e w' => ∃ u, e = .returned (.string u) ∧ isTz s X u ∧ Below w.heap.size w w' := by
  by_cases hX : X = 0
  · exact vText_zero s a n cap X w hn hS hX
  · cases s
    · exact vText_pos a n cap X w hn hS
    · exact vText_neg a n cap X w hn hS hX
end Go.Proofs.YtjbeagbkjmaeeaaGreatDoor

namespace Go.Proofs.YtjbeagbkjmaeeaaGreatDoor
open Go.RowKit
set_option linter.unusedVariables false

theorem one_ln {V : Nat} (h : ln V ≠ 1) : V ≠ 1 := fun e => h (by rw [e]; exact ln_one)
set_option maxHeartbeats 1000000 in
theorem isOne_is (q : Option Addr) (V : Nat) (w : World) (hm : ln V ≤ 70368744177664) (hS : Seg w q V (ln V)) :
    Calls Tryz.prog 51 #[.slice q (ln V) (ln V)] w fun e w' => e = .returned (.bool (decide (V = 1))) ∧ w' = w := by
  by_cases h1 : ln V = 1
  · have hV := ln_lt V
    rw [h1, Nat.pow_one, BB_eq] at hV
    rw [h1] at hS ⊢
    obtain ⟨b, off, rfl, hb, hc⟩ := hS.2 (by omega)
    have hc0 := hc 0 (by omega)
    rw [dg0, Nat.mod_eq_of_lt hV, Nat.add_zero] at hc0
    have hx : ((V : Int) == 1) = decide (V = 1) := by
      rw [Bool.eq_iff_iff, beq_iff_eq, decide_eq_true_eq]; omega
    go_enter Tryz.func51, Tryz.ntmps51
    go_wp2
    go_ret
    exact ⟨by first | rfl | simp [hx], rfl⟩
  · have hb : ((ln V : Int) == 1) = false := by rw [beq_eq_false_iff_ne]; omega
    have hd : decide (V = 1) = false := decide_eq_false (one_ln h1)
    rw [hd]
    go_enter Tryz.func51, Tryz.ntmps51
    go_wp2
    go_ret
    exact ⟨rfl, rfl⟩
set_option maxHeartbeats 1000000 in
theorem digits_is (a : Option Addr) (n cap X : Nat) (t : ByteArray) (w : World) (h : Digs w) (hc : n ≤ cap) (hn : n ≤ 1073741824) (hS : Seg w a X n) (ht : isTx 10 X t) :
    Calls Tryz.prog 53 #[.slice a n cap] w fun e w' => e = .returned (.string t) ∧ Below w.heap.size w w' := by
  have HT := hide' ht
  clear ht
  go_enter Tryz.func53, Tryz.ntmps53
  go_wp2_with fail
  refine (Text_any a n cap X 10 (by omega) (by omega) w h hc hn hS).mono ?_
  rintro e w1 ⟨u, rfl, hu, b1⟩
  obtain rfl := hu.uniq (by omega) HT.out
  go_wp2
  go_ret
  exact ⟨rfl, b1⟩
set_option maxHeartbeats 1000000 in
theorem vdigits_is (a : Option Addr) (n cap X : Nat) (t : ByteArray) (w : World) (hn : n ≤ 1073741824) (hS : Seg w a X n) (ht : isTx 10 X t) :
    Calls Tryz.prog 64 #[.slice a n cap] w fun e w' => e = .returned (.string t) ∧ Below w.heap.size w w' := by
  have HT := hide' ht
  clear ht
  go_enter Tryz.func64, Tryz.ntmps64
  go_wp2_with fail
  refine (rText_any a n cap X 10 (by omega) (by omega) w hn hS).mono ?_
  rintro e w1 ⟨u, rfl, hu, b1⟩
  obtain rfl := hu.uniq (by omega) HT.out
  go_wp2
  go_ret
  exact ⟨rfl, b1⟩
set_option maxHeartbeats 1000000 in
theorem rSame_any (ao ao2 : Option Addr) (n cap X m cap2 Y : Nat) (w : World) (hm : n ≤ 70368744177664) (hm2 : m ≤ 70368744177664) (hS : Seg w ao X n) (hS2 : Seg w ao2 Y m) :
    Calls Tryz.prog 63 #[.slice ao n cap, .slice ao2 m cap2] w fun e w' => e = .returned (.bool (sameB n m X Y)) ∧ Dr w w' := by
  by_cases hnm : n = m
  · subst hnm
    go_enter Tryz.func63, Tryz.ntmps63
    go_wp2
    go_loopw [5] (fun i wr => ∃ k : Nat, k ≤ n ∧ i = .int .i64 k ∧ Dr w wr ∧ ∀ j, j < k → dg X j = dg Y j) (fun i _ => n - (intOf i).toNat)
    case atStart => exact ⟨0, Nat.zero_le _, rfl, Dr.refl _, fun j hj => absurd hj (by omega)⟩
    case round =>
      obtain ⟨k, hk, rfl, hdr, hd⟩ := hrel
      have HD : Hid (∀ j, j < k → dg X j = dg Y j) := hd
      clear hd
      by_cases hlt : k < n
      · have hTr := hS.dr hdr
        have hTr2 := hS2.dr hdr
        obtain ⟨b, off, rfl, hb', hcell⟩ := hTr.2 (by omega)
        obtain ⟨b2, off2, rfl, hb2', hcell2⟩ := hTr2.2 (by omega)
        have h1 := dg_lt X k
        have h2 := dg_lt Y k
        by_cases hx : dg X k = dg Y k
        · have hxb : (((dg X k : Nat) : Int) != ((dg Y k : Nat) : Int)) = false := by rw [hx]; simp
          have HX : Hid (dg X k = dg Y k) := hx
          clear hx
          go_wp2
          go_quiet (fail)
          go_wp2
          go_roundw
          case rel => exact ⟨k + 1, by omega, by go_num, hdr.drewN _, fun j hj => by
            by_cases e : j = k
            · rw [e]; exact HX.out
            · exact HD.out j (by omega)⟩
          case measure => simp [intOf]; omega
        · have hxb : (((dg X k : Nat) : Int) != ((dg Y k : Nat) : Int)) = true := by rw [bne_iff_ne]; omega
          have e : sameB n n X Y = false := by
            unfold sameB; rw [decide_eq_false]; rintro ⟨_, rfl⟩; exact hx rfl
          go_wp2
          go_quiet (fail)
          go_wp2
          go_ret
          exact ⟨by rw [e]; rfl, hdr.drewN _⟩
      · go_wp2
        go_ret
        have e : X = Y := dg_ext hS.1 hS2.1 fun i hi => HD.out i (by omega)
        exact ⟨by simp [sameB, e], hdr⟩
  · have hb : (((n : Nat) : Int) != ((m : Nat) : Int)) = true := by rw [bne_iff_ne]; omega
    have e : sameB n m X Y = false := by simp [sameB, hnm]
    go_enter Tryz.func63, Tryz.ntmps63
    go_wp2
    go_ret
    exact ⟨by rw [e]; rfl, Dr.refl _⟩
theorem rSame_one (q a1 : Option Addr) (V : Nat) (w : World) (hm : ln V ≤ 70368744177664) (hS : Seg w q V (ln V)) (h1 : Seg w a1 1 1) :
    Calls Tryz.prog 63 #[.slice q (ln V) (ln V), .slice a1 1 1] w fun e w' => e = .returned (.bool (decide (V = 1))) ∧ Below w.heap.size w w' := by
  refine (rSame_any q a1 (ln V) (ln V) V 1 1 1 w hm (by omega) hS h1).mono fun e w' ⟨he, hd⟩ => ⟨?_, hd.below _⟩
  rw [he]
  unfold sameB
  congr 2
  rw [decide_eq_decide]
  exact ⟨fun h => h.2, fun h => ⟨by rw [h]; exact ln_one, h⟩⟩
end Go.Proofs.YtjbeagbkjmaeeaaGreatDoor

namespace Go.Proofs.YtjbeagbkjmaeeaaGreatDoor
open Go.RowKit
set_option linter.unusedVariables false

set_option maxHeartbeats 4000000 in
set_option maxRecDepth 100000 in
theorem qText_one (s0 : Bool) (a0 : Option Addr) (n0 c0 X0 : Nat) (b0 : Option Addr) (m0 d0 Y0 : Nat) (Z : Int) (V : Nat) (u d : ByteArray) (w : World) (hc0 : n0 ≤ c0) (hm0 : n0 ≤ 134217728) (hS0 : Seg w a0 X0 n0) (hd0 : m0 ≤ d0) (hk0 : m0 ≤ 134217728) (hT0 : Seg w b0 Y0 m0) (hL : Low (rn s0 X0 Y0) (rd Y0 : Nat) Z V) (hu : isTz (ng Z) (am Z) u) (hd : isTx 10 V d) (h : Digs w) (h1 : V = 1) :
    Calls Tryz.prog 24 #[Value.agg #[Value.bool s0, Value.slice a0 n0 c0, Value.slice b0 m0 d0]] w fun e w' => e = .returned (.string (u)) ∧ Below w.heap.size w w' := by
  obtain ⟨lZ, lV⟩ := low_ln hS0.1 hT0.1 hL
  have zu := hu.size_le (ln_lt (am Z))
  have zd := hd.size_le (by omega) (ln_lt V)
  have x1 : ¬ (9223372036854775807 < u.size + 1) := by omega
  have x2 : u.size + 1 ≤ 9223372036854775807 := by omega
  have x3 : ¬ (9223372036854775807 < u.size + 1 + d.size) := by omega
  have x4 : u.size + 1 + d.size ≤ 9223372036854775807 := by omega
  have x5 : ¬ (9223372036854775807 < 1 + d.size) := by omega
  have x6 : 1 + d.size ≤ 9223372036854775807 := by omega
  have x7 : ¬ (9223372036854775807 < u.size + (1 + d.size)) := by omega
  have x8 : u.size + (1 + d.size) ≤ 9223372036854775807 := by omega
  have x9 : (⟨#[47]⟩ : ByteArray).size = 1 := rfl
  have G1 := hide' hL
  have I1 := hide' (fun w' p k => isOne_is p V w' (by omega) k)
  rw [decide_eq_true h1] at I1
  have T1 := hide' (fun w' a (k : Digs w') (g : Seg w' a (am Z) (ln (am Z))) => (wText_any (ng Z) a (ln (am Z)) (ln (am Z)) (am Z) w' k (Nat.le_refl _) (by omega) g).mono fun e w'' ⟨x, he, hx, hb⟩ => (⟨by rw [he, hx.uniq hu], hb⟩ : e = Ending.returned (Value.string u) ∧ Below w'.heap.size w' w''))
  have D1 := hide' (fun w' a (k : Digs w') (g : Seg w' a V (ln V)) => digits_is a (ln V) (ln V) V d w' k (Nat.le_refl _) (by omega) g hd)
  have HH := hide' h
  clear hL hu hd h h1 zu zd
  go_enter Tryz.func24, Tryz.ntmps24
  go_wp2_with fail
  obtain ⟨W, hW⟩ : ∃ W, (w.alloc (.cells #[.bool s0, .slice a0 n0 c0, .slice b0 m0 d0] 27)) = W := ⟨_, rfl⟩
  have q00 : W.cell? ⟨w.heap.size, 0, none⟩ = some (.bool s0) := by subst hW; go_simp
  have q01 : W.cell? ⟨w.heap.size, 1, none⟩ = some (.slice a0 n0 c0) := by subst hW; go_simp
  have q02 : W.cell? ⟨w.heap.size, 2, none⟩ = some (.slice b0 m0 d0) := by subst hW; go_simp
  have hB : Below w.heap.size w W := by subst hW; exact ((Below.refl _ _).alloc (by (try simp only [World.size_alloc]); omega) _)
  have hz : W.heap.size = w.heap.size + 1 := by subst hW; simp only [World.size_alloc]
  rw [hW]
  clear hW
  have hBW : Below W.heap.size W W := Below.refl _ _
  refine (qNorm_is s0 a0 n0 c0 X0 b0 m0 d0 Y0 Z V _ hc0 (by omega) (sb hS0 hB hBW) hd0 (by omega) (sb hT0 hB hBW) G1.out).mono ?_
  rintro e w41 ⟨p41, q41, rfl, hp41, hq41⟩
  have b41 := hp41.below
  replace hp41 := hp41.back hBW
  replace hq41 := hq41.back hBW
  replace hBW := hBW.trans (b41.mono hBW.size)
  replace q00 := below_cell b41 q00
  replace q01 := below_cell b41 q01
  replace q02 := below_cell b41 q02
  have hsz41 := hBW.size
  have l4100 : ((w41.alloc (.cells #[.bool (ng Z), .slice p41 (ln (am Z)) (ln (am Z)), .slice q41 (ln V) (ln V)] 27))).cell? ⟨w41.heap.size, 0, none⟩ = some (.bool (ng Z)) := by go_simp
  have l4101 : ((w41.alloc (.cells #[.bool (ng Z), .slice p41 (ln (am Z)) (ln (am Z)), .slice q41 (ln V) (ln V)] 27))).cell? ⟨w41.heap.size, 1, none⟩ = some (.slice p41 (ln (am Z)) (ln (am Z))) := by go_simp
  have l4102 : ((w41.alloc (.cells #[.bool (ng Z), .slice p41 (ln (am Z)) (ln (am Z)), .slice q41 (ln V) (ln V)] 27))).cell? ⟨w41.heap.size, 2, none⟩ = some (.slice q41 (ln V) (ln V)) := by go_simp
  have cb41 : Below w41.heap.size w41 ((w41.alloc (.cells #[.bool (ng Z), .slice p41 (ln (am Z)) (ln (am Z)), .slice q41 (ln V) (ln V)] 27))) := ((Below.refl _ _).alloc (by (try simp only [World.size_alloc]); omega) _)
  replace hBW := hBW.trans (cb41.mono hBW.size)
  replace q00 := below_cell cb41 q00
  replace q01 := below_cell cb41 q01
  replace q02 := below_cell cb41 q02
  replace hp41 := hp41.later cb41
  replace hq41 := hq41.later cb41
  have hL410 : Row ((w41.alloc (.cells #[.bool (ng Z), .slice p41 (ln (am Z)) (ln (am Z)), .slice q41 (ln V) (ln V)] 27))) (w41.heap.size) := by
    have := row_new (w41) #[.bool (ng Z), .slice p41 (ln (am Z)) (ln (am Z)), .slice q41 (ln V) (ln V)] 27
    try simp only [World.size_alloc] at this
    exact this
  go_wp2_with fail
  generalize (w41.alloc (.cells #[.bool (ng Z), .slice p41 (ln (am Z)) (ln (am Z)), .slice q41 (ln V) (ln V)] 27)) = w41x at q00 q01 q02 l4100 l4101 l4102 hL410 hp41 hq41 hBW cb41 ⊢
  clear cb41
  refine (I1.out _ _ hq41.seg).mono ?_
  rintro e w42 ⟨rfl, rfl⟩
  go_wp2_with fail
  refine (T1.out _ _ (HH.out.below (hB.trans (hBW.mono hB.size))) hp41.seg).mono ?_
  rintro e w43 ⟨rfl, b43⟩
  replace hBW := hBW.trans (b43.mono hBW.size)
  replace q00 := below_cell b43 q00
  replace q01 := below_cell b43 q01
  replace q02 := below_cell b43 q02
  replace l4100 := below_cell b43 l4100
  replace l4101 := below_cell b43 l4101
  replace l4102 := below_cell b43 l4102
  replace hL410 := below_row b43 hL410
  replace hp41 := hp41.later b43
  replace hq41 := hq41.later b43
  go_wp2
  go_ret
  exact ⟨rfl, (hB.trans (hBW.mono hB.size))⟩

set_option maxHeartbeats 4000000 in
set_option maxRecDepth 100000 in
theorem qText_more (s0 : Bool) (a0 : Option Addr) (n0 c0 X0 : Nat) (b0 : Option Addr) (m0 d0 Y0 : Nat) (Z : Int) (V : Nat) (u d : ByteArray) (w : World) (hc0 : n0 ≤ c0) (hm0 : n0 ≤ 134217728) (hS0 : Seg w a0 X0 n0) (hd0 : m0 ≤ d0) (hk0 : m0 ≤ 134217728) (hT0 : Seg w b0 Y0 m0) (hL : Low (rn s0 X0 Y0) (rd Y0 : Nat) Z V) (hu : isTz (ng Z) (am Z) u) (hd : isTx 10 V d) (h : Digs w) (h1 : V ≠ 1) :
    Calls Tryz.prog 24 #[Value.agg #[Value.bool s0, Value.slice a0 n0 c0, Value.slice b0 m0 d0]] w fun e w' => e = .returned (.string (u ++ (⟨#[47]⟩ : ByteArray) ++ d)) ∧ Below w.heap.size w w' := by
  obtain ⟨lZ, lV⟩ := low_ln hS0.1 hT0.1 hL
  have zu := hu.size_le (ln_lt (am Z))
  have zd := hd.size_le (by omega) (ln_lt V)
  have x1 : ¬ (9223372036854775807 < u.size + 1) := by omega
  have x2 : u.size + 1 ≤ 9223372036854775807 := by omega
  have x3 : ¬ (9223372036854775807 < u.size + 1 + d.size) := by omega
  have x4 : u.size + 1 + d.size ≤ 9223372036854775807 := by omega
  have x5 : ¬ (9223372036854775807 < 1 + d.size) := by omega
  have x6 : 1 + d.size ≤ 9223372036854775807 := by omega
  have x7 : ¬ (9223372036854775807 < u.size + (1 + d.size)) := by omega
  have x8 : u.size + (1 + d.size) ≤ 9223372036854775807 := by omega
  have x9 : (⟨#[47]⟩ : ByteArray).size = 1 := rfl
  have G1 := hide' hL
  have I1 := hide' (fun w' p k => isOne_is p V w' (by omega) k)
  rw [decide_eq_false h1] at I1
  have T1 := hide' (fun w' a (k : Digs w') (g : Seg w' a (am Z) (ln (am Z))) => (wText_any (ng Z) a (ln (am Z)) (ln (am Z)) (am Z) w' k (Nat.le_refl _) (by omega) g).mono fun e w'' ⟨x, he, hx, hb⟩ => (⟨by rw [he, hx.uniq hu], hb⟩ : e = Ending.returned (Value.string u) ∧ Below w'.heap.size w' w''))
  have D1 := hide' (fun w' a (k : Digs w') (g : Seg w' a V (ln V)) => digits_is a (ln V) (ln V) V d w' k (Nat.le_refl _) (by omega) g hd)
  have HH := hide' h
  clear hL hu hd h h1 zu zd
  go_enter Tryz.func24, Tryz.ntmps24
  go_wp2_with fail
  obtain ⟨W, hW⟩ : ∃ W, (w.alloc (.cells #[.bool s0, .slice a0 n0 c0, .slice b0 m0 d0] 27)) = W := ⟨_, rfl⟩
  have q00 : W.cell? ⟨w.heap.size, 0, none⟩ = some (.bool s0) := by subst hW; go_simp
  have q01 : W.cell? ⟨w.heap.size, 1, none⟩ = some (.slice a0 n0 c0) := by subst hW; go_simp
  have q02 : W.cell? ⟨w.heap.size, 2, none⟩ = some (.slice b0 m0 d0) := by subst hW; go_simp
  have hB : Below w.heap.size w W := by subst hW; exact ((Below.refl _ _).alloc (by (try simp only [World.size_alloc]); omega) _)
  have hz : W.heap.size = w.heap.size + 1 := by subst hW; simp only [World.size_alloc]
  rw [hW]
  clear hW
  have hBW : Below W.heap.size W W := Below.refl _ _
  refine (qNorm_is s0 a0 n0 c0 X0 b0 m0 d0 Y0 Z V _ hc0 (by omega) (sb hS0 hB hBW) hd0 (by omega) (sb hT0 hB hBW) G1.out).mono ?_
  rintro e w41 ⟨p41, q41, rfl, hp41, hq41⟩
  have b41 := hp41.below
  replace hp41 := hp41.back hBW
  replace hq41 := hq41.back hBW
  replace hBW := hBW.trans (b41.mono hBW.size)
  replace q00 := below_cell b41 q00
  replace q01 := below_cell b41 q01
  replace q02 := below_cell b41 q02
  have hsz41 := hBW.size
  have l4100 : ((w41.alloc (.cells #[.bool (ng Z), .slice p41 (ln (am Z)) (ln (am Z)), .slice q41 (ln V) (ln V)] 27))).cell? ⟨w41.heap.size, 0, none⟩ = some (.bool (ng Z)) := by go_simp
  have l4101 : ((w41.alloc (.cells #[.bool (ng Z), .slice p41 (ln (am Z)) (ln (am Z)), .slice q41 (ln V) (ln V)] 27))).cell? ⟨w41.heap.size, 1, none⟩ = some (.slice p41 (ln (am Z)) (ln (am Z))) := by go_simp
  have l4102 : ((w41.alloc (.cells #[.bool (ng Z), .slice p41 (ln (am Z)) (ln (am Z)), .slice q41 (ln V) (ln V)] 27))).cell? ⟨w41.heap.size, 2, none⟩ = some (.slice q41 (ln V) (ln V)) := by go_simp
  have cb41 : Below w41.heap.size w41 ((w41.alloc (.cells #[.bool (ng Z), .slice p41 (ln (am Z)) (ln (am Z)), .slice q41 (ln V) (ln V)] 27))) := ((Below.refl _ _).alloc (by (try simp only [World.size_alloc]); omega) _)
  replace hBW := hBW.trans (cb41.mono hBW.size)
  replace q00 := below_cell cb41 q00
  replace q01 := below_cell cb41 q01
  replace q02 := below_cell cb41 q02
  replace hp41 := hp41.later cb41
  replace hq41 := hq41.later cb41
  have hL410 : Row ((w41.alloc (.cells #[.bool (ng Z), .slice p41 (ln (am Z)) (ln (am Z)), .slice q41 (ln V) (ln V)] 27))) (w41.heap.size) := by
    have := row_new (w41) #[.bool (ng Z), .slice p41 (ln (am Z)) (ln (am Z)), .slice q41 (ln V) (ln V)] 27
    try simp only [World.size_alloc] at this
    exact this
  go_wp2_with fail
  generalize (w41.alloc (.cells #[.bool (ng Z), .slice p41 (ln (am Z)) (ln (am Z)), .slice q41 (ln V) (ln V)] 27)) = w41x at q00 q01 q02 l4100 l4101 l4102 hL410 hp41 hq41 hBW cb41 ⊢
  clear cb41
  refine (I1.out _ _ hq41.seg).mono ?_
  rintro e w42 ⟨rfl, rfl⟩
  go_wp2_with fail
  replace hBW := hBW.drew
  replace hp41 := hp41.drew
  replace hq41 := hq41.drew
  first
    | go_region_held3 (fun w' => w'.cell? ⟨w.heap.size, 0, none⟩ = some (.bool s0) ∧ w'.cell? ⟨w.heap.size, 1, none⟩ = some (.slice a0 n0 c0) ∧ w'.cell? ⟨w.heap.size, 2, none⟩ = some (.slice b0 m0 d0) ∧ w'.cell? ⟨w41.heap.size, 0, none⟩ = some (.bool (ng Z)) ∧ w'.cell? ⟨w41.heap.size, 1, none⟩ = some (.slice p41 (ln (am Z)) (ln (am Z))) ∧ w'.cell? ⟨w41.heap.size, 2, none⟩ = some (.slice q41 (ln V) (ln V)) ∧ Below w.heap.size w w')
        (first | exact ⟨q00, q01, q02, l4100, l4101, l4102, hB.trans (hBW.mono hB.size)⟩ | exact kp6 b43 (by assumption) | exact kp6 b44 (by assumption) | exact kp6 (below_alloc _) (by assumption))
        (first
          | (go_at_call 52; refine (T1.out _ _ (HH.out.below (hB.trans (hBW.mono hB.size))) hp41.seg).mono ?_; rintro e w43 ⟨rfl, b43⟩; replace hBW := hBW.trans (b43.mono hBW.size); replace q00 := below_cell b43 q00; replace q01 := below_cell b43 q01; replace q02 := below_cell b43 q02; replace l4100 := below_cell b43 l4100; replace l4101 := below_cell b43 l4101; replace l4102 := below_cell b43 l4102; replace hL410 := below_row b43 hL410; replace hp41 := hp41.later b43; replace hq41 := hq41.later b43)
          | (go_at_call 53; refine (D1.out _ _ (HH.out.below (hB.trans (hBW.mono hB.size))) hq41.seg).mono ?_; rintro e w44 ⟨rfl, b44⟩; replace hBW := hBW.trans (b44.mono hBW.size); replace q00 := below_cell b44 q00; replace q01 := below_cell b44 q01; replace q02 := below_cell b44 q02; replace l4100 := below_cell b44 l4100; replace l4101 := below_cell b44 l4101; replace l4102 := below_cell b44 l4102; replace hL410 := below_row b44 hL410; replace hp41 := hp41.later b44; replace hq41 := hq41.later b44))
    | fail
  go_wp2
  go_ret
  exact ⟨rfl, (hB.trans (hBW.mono hB.size))⟩

set_option maxHeartbeats 4000000 in
set_option maxRecDepth 100000 in
theorem vqText_one (s0 : Bool) (a0 : Option Addr) (n0 c0 X0 : Nat) (b0 : Option Addr) (m0 d0 Y0 : Nat) (Z : Int) (V : Nat) (u d : ByteArray) (w : World) (hc0 : n0 ≤ c0) (hm0 : n0 ≤ 134217728) (hS0 : Seg w a0 X0 n0) (hd0 : m0 ≤ d0) (hk0 : m0 ≤ 134217728) (hT0 : Seg w b0 Y0 m0) (hL : Low (rn s0 X0 Y0) (rd Y0 : Nat) Z V) (hu : isTz (ng Z) (am Z) u) (hd : isTx 10 V d) (h1 : V = 1) :
    Calls Tryz.prog 30 #[Value.agg #[Value.bool s0, Value.slice a0 n0 c0, Value.slice b0 m0 d0]] w fun e w' => e = .returned (.string (u)) ∧ Below w.heap.size w w' := by
  obtain ⟨lZ, lV⟩ := low_ln hS0.1 hT0.1 hL
  have zu := hu.size_le (ln_lt (am Z))
  have zd := hd.size_le (by omega) (ln_lt V)
  have x1 : ¬ (9223372036854775807 < u.size + 1) := by omega
  have x2 : u.size + 1 ≤ 9223372036854775807 := by omega
  have x3 : ¬ (9223372036854775807 < u.size + 1 + d.size) := by omega
  have x4 : u.size + 1 + d.size ≤ 9223372036854775807 := by omega
  have x5 : ¬ (9223372036854775807 < 1 + d.size) := by omega
  have x6 : 1 + d.size ≤ 9223372036854775807 := by omega
  have x7 : ¬ (9223372036854775807 < u.size + (1 + d.size)) := by omega
  have x8 : u.size + (1 + d.size) ≤ 9223372036854775807 := by omega
  have x9 : (⟨#[47]⟩ : ByteArray).size = 1 := rfl
  have G1 := hide' hL
  have I1 := hide' (fun w' p a1 k g => rSame_one p a1 V w' (by omega) k g)
  rw [decide_eq_true h1] at I1
  have T1 := hide' (fun w' a (g : Seg w' a (am Z) (ln (am Z))) => (vText_any (ng Z) a (ln (am Z)) (ln (am Z)) (am Z) w' (by omega) g).mono fun e w'' ⟨x, he, hx, hb⟩ => (⟨by rw [he, hx.uniq hu], hb⟩ : e = Ending.returned (Value.string u) ∧ Below w'.heap.size w' w''))
  have D1 := hide' (fun w' a (g : Seg w' a V (ln V)) => vdigits_is a (ln V) (ln V) V d w' (by omega) g hd)
  clear hL hu hd h1 zu zd
  go_enter Tryz.func30, Tryz.ntmps30
  go_wp2_with fail
  obtain ⟨W, hW⟩ : ∃ W, (w.alloc (.cells #[.bool s0, .slice a0 n0 c0, .slice b0 m0 d0] 27)) = W := ⟨_, rfl⟩
  have q00 : W.cell? ⟨w.heap.size, 0, none⟩ = some (.bool s0) := by subst hW; go_simp
  have q01 : W.cell? ⟨w.heap.size, 1, none⟩ = some (.slice a0 n0 c0) := by subst hW; go_simp
  have q02 : W.cell? ⟨w.heap.size, 2, none⟩ = some (.slice b0 m0 d0) := by subst hW; go_simp
  have hB : Below w.heap.size w W := by subst hW; exact ((Below.refl _ _).alloc (by (try simp only [World.size_alloc]); omega) _)
  have hP0 : Row W (w.heap.size) := by
    have := row_new (w) #[.bool s0, .slice a0 n0 c0, .slice b0 m0 d0] 27
    try simp only [World.size_alloc] at this
    subst hW; exact this
  have hz : W.heap.size = w.heap.size + 1 := by subst hW; simp only [World.size_alloc]
  rw [hW]
  clear hW
  have hBW : Below W.heap.size W W := Below.refl _ _
  refine (vqNorm_is s0 a0 n0 c0 X0 b0 m0 d0 Y0 V Z _ (by omega) (sb hS0 hB hBW) (by omega) (sb hT0 hB hBW) G1.out).mono ?_
  rintro e w41 ⟨p41, q41, rfl, hp41, hq41⟩
  have b41 := hp41.below
  replace hp41 := hp41.back hBW
  replace hq41 := hq41.back hBW
  replace hBW := hBW.trans (b41.mono hBW.size)
  replace q00 := below_cell b41 q00
  replace q01 := below_cell b41 q01
  replace q02 := below_cell b41 q02
  replace hP0 := below_row b41 hP0
  have hsB := hBW.size
  have hM : Mid w.heap.size W.heap.size w41 (((w41.setCell ⟨w.heap.size, 0, none⟩ (.bool (ng Z))).setCell ⟨w.heap.size, 1, none⟩ (.slice p41 (ln (am Z)) (ln (am Z)))).setCell ⟨w.heap.size, 2, none⟩ (.slice q41 (ln V) (ln V))) := ((((Mid.refl _ _ _).set _ _ (by omega) (by omega) _).set _ _ (by omega) (by omega) _).set _ _ (by omega) (by omega) _)
  have eM := set3_same (w := w41) (c := w.heap.size) (u0 := .bool (ng Z)) (u1 := .slice p41 (ln (am Z)) (ln (am Z))) (u2 := .slice q41 (ln V) (ln V)) q00 q01 q02
  have q00_ : ((((w41.setCell ⟨w.heap.size, 0, none⟩ (.bool (ng Z))).setCell ⟨w.heap.size, 1, none⟩ (.slice p41 (ln (am Z)) (ln (am Z)))).setCell ⟨w.heap.size, 2, none⟩ (.slice q41 (ln V) (ln V)))).cell? ⟨w.heap.size, 0, none⟩ = some (.bool (ng Z)) := eM.1
  have q01_ : ((((w41.setCell ⟨w.heap.size, 0, none⟩ (.bool (ng Z))).setCell ⟨w.heap.size, 1, none⟩ (.slice p41 (ln (am Z)) (ln (am Z)))).setCell ⟨w.heap.size, 2, none⟩ (.slice q41 (ln V) (ln V)))).cell? ⟨w.heap.size, 1, none⟩ = some (.slice p41 (ln (am Z)) (ln (am Z))) := eM.2.1
  have q02_ : ((((w41.setCell ⟨w.heap.size, 0, none⟩ (.bool (ng Z))).setCell ⟨w.heap.size, 1, none⟩ (.slice p41 (ln (am Z)) (ln (am Z)))).setCell ⟨w.heap.size, 2, none⟩ (.slice q41 (ln V) (ln V)))).cell? ⟨w.heap.size, 2, none⟩ = some (.slice q41 (ln V) (ln V)) := eM.2.2
  have hP0_ := (((hP0.setCell ⟨w.heap.size, 0, none⟩ (.bool (ng Z))).setCell ⟨w.heap.size, 1, none⟩ (.slice p41 (ln (am Z)) (ln (am Z)))).setCell ⟨w.heap.size, 2, none⟩ (.slice q41 (ln V) (ln V)))
  have fzhP0 := fun o => hP0.frozen o
  have khp41 := (hp41.mid hB hM).seg
  clear hp41
  have khq41 := (hq41.mid hB hM).seg
  clear hq41
  have hBn := (hB.trans (hBW.mono hB.size)).trans (hM.below (Nat.le_trans hB.size hBW.size))
  have hsM := hM.size
  clear hM eM
  go_wp2_with fail
  clear q00 q01 q02 hP0 fzhP0 hB hBW
  generalize (((w41.setCell ⟨w.heap.size, 0, none⟩ (.bool (ng Z))).setCell ⟨w.heap.size, 1, none⟩ (.slice p41 (ln (am Z)) (ln (am Z)))).setCell ⟨w.heap.size, 2, none⟩ (.slice q41 (ln V) (ln V))) = w41y at q00_ q01_ q02_ hP0_ khp41 khq41 hBn hsM ⊢
  have q00 := q00_
  clear q00_
  have q01 := q01_
  clear q01_
  have q02 := q02_
  clear q02_
  have hP0 := hP0_
  clear hP0_
  have hB := hBn
  clear hBn
  have hBW : Below w41y.heap.size w41y w41y := Below.refl _ _
  refine (T1.out _ _ khp41).mono ?_
  rintro e w42 ⟨rfl, b42⟩
  replace hBW := hBW.trans (b42.mono hBW.size)
  replace q00 := below_cell b42 q00
  replace q01 := below_cell b42 q01
  replace q02 := below_cell b42 q02
  replace hP0 := below_row b42 hP0
  replace khp41 := khp41.later b42
  replace khq41 := khq41.later b42
  go_wp2_with fail
  have nb := single_new w42 1 58 1 (by omega) rfl
  refine (I1.out _ _ _ (khq41.later nb.below) nb.seg).mono ?_
  rintro e w43 ⟨rfl, b43⟩
  replace b43 := nb.below.trans (b43.mono nb.below.size)
  clear nb
  replace hBW := hBW.trans (b43.mono hBW.size)
  replace q00 := below_cell b43 q00
  replace q01 := below_cell b43 q01
  replace q02 := below_cell b43 q02
  replace hP0 := below_row b43 hP0
  replace khp41 := khp41.later b43
  replace khq41 := khq41.later b43
  go_wp2
  go_ret
  exact ⟨rfl, (hB.trans (hBW.mono hB.size))⟩

set_option maxHeartbeats 4000000 in
set_option maxRecDepth 100000 in
theorem vqText_more (s0 : Bool) (a0 : Option Addr) (n0 c0 X0 : Nat) (b0 : Option Addr) (m0 d0 Y0 : Nat) (Z : Int) (V : Nat) (u d : ByteArray) (w : World) (hc0 : n0 ≤ c0) (hm0 : n0 ≤ 134217728) (hS0 : Seg w a0 X0 n0) (hd0 : m0 ≤ d0) (hk0 : m0 ≤ 134217728) (hT0 : Seg w b0 Y0 m0) (hL : Low (rn s0 X0 Y0) (rd Y0 : Nat) Z V) (hu : isTz (ng Z) (am Z) u) (hd : isTx 10 V d) (h1 : V ≠ 1) :
    Calls Tryz.prog 30 #[Value.agg #[Value.bool s0, Value.slice a0 n0 c0, Value.slice b0 m0 d0]] w fun e w' => e = .returned (.string (u ++ ((⟨#[47]⟩ : ByteArray) ++ d))) ∧ Below w.heap.size w w' := by
  obtain ⟨lZ, lV⟩ := low_ln hS0.1 hT0.1 hL
  have zu := hu.size_le (ln_lt (am Z))
  have zd := hd.size_le (by omega) (ln_lt V)
  have x1 : ¬ (9223372036854775807 < u.size + 1) := by omega
  have x2 : u.size + 1 ≤ 9223372036854775807 := by omega
  have x3 : ¬ (9223372036854775807 < u.size + 1 + d.size) := by omega
  have x4 : u.size + 1 + d.size ≤ 9223372036854775807 := by omega
  have x5 : ¬ (9223372036854775807 < 1 + d.size) := by omega
  have x6 : 1 + d.size ≤ 9223372036854775807 := by omega
  have x7 : ¬ (9223372036854775807 < u.size + (1 + d.size)) := by omega
  have x8 : u.size + (1 + d.size) ≤ 9223372036854775807 := by omega
  have x9 : (⟨#[47]⟩ : ByteArray).size = 1 := rfl
  have G1 := hide' hL
  have I1 := hide' (fun w' p a1 k g => rSame_one p a1 V w' (by omega) k g)
  rw [decide_eq_false h1] at I1
  have T1 := hide' (fun w' a (g : Seg w' a (am Z) (ln (am Z))) => (vText_any (ng Z) a (ln (am Z)) (ln (am Z)) (am Z) w' (by omega) g).mono fun e w'' ⟨x, he, hx, hb⟩ => (⟨by rw [he, hx.uniq hu], hb⟩ : e = Ending.returned (Value.string u) ∧ Below w'.heap.size w' w''))
  have D1 := hide' (fun w' a (g : Seg w' a V (ln V)) => vdigits_is a (ln V) (ln V) V d w' (by omega) g hd)
  clear hL hu hd h1 zu zd
  go_enter Tryz.func30, Tryz.ntmps30
  go_wp2_with fail
  obtain ⟨W, hW⟩ : ∃ W, (w.alloc (.cells #[.bool s0, .slice a0 n0 c0, .slice b0 m0 d0] 27)) = W := ⟨_, rfl⟩
  have q00 : W.cell? ⟨w.heap.size, 0, none⟩ = some (.bool s0) := by subst hW; go_simp
  have q01 : W.cell? ⟨w.heap.size, 1, none⟩ = some (.slice a0 n0 c0) := by subst hW; go_simp
  have q02 : W.cell? ⟨w.heap.size, 2, none⟩ = some (.slice b0 m0 d0) := by subst hW; go_simp
  have hB : Below w.heap.size w W := by subst hW; exact ((Below.refl _ _).alloc (by (try simp only [World.size_alloc]); omega) _)
  have hP0 : Row W (w.heap.size) := by
    have := row_new (w) #[.bool s0, .slice a0 n0 c0, .slice b0 m0 d0] 27
    try simp only [World.size_alloc] at this
    subst hW; exact this
  have hz : W.heap.size = w.heap.size + 1 := by subst hW; simp only [World.size_alloc]
  rw [hW]
  clear hW
  have hBW : Below W.heap.size W W := Below.refl _ _
  refine (vqNorm_is s0 a0 n0 c0 X0 b0 m0 d0 Y0 V Z _ (by omega) (sb hS0 hB hBW) (by omega) (sb hT0 hB hBW) G1.out).mono ?_
  rintro e w41 ⟨p41, q41, rfl, hp41, hq41⟩
  have b41 := hp41.below
  replace hp41 := hp41.back hBW
  replace hq41 := hq41.back hBW
  replace hBW := hBW.trans (b41.mono hBW.size)
  replace q00 := below_cell b41 q00
  replace q01 := below_cell b41 q01
  replace q02 := below_cell b41 q02
  replace hP0 := below_row b41 hP0
  have hsB := hBW.size
  have hM : Mid w.heap.size W.heap.size w41 (((w41.setCell ⟨w.heap.size, 0, none⟩ (.bool (ng Z))).setCell ⟨w.heap.size, 1, none⟩ (.slice p41 (ln (am Z)) (ln (am Z)))).setCell ⟨w.heap.size, 2, none⟩ (.slice q41 (ln V) (ln V))) := ((((Mid.refl _ _ _).set _ _ (by omega) (by omega) _).set _ _ (by omega) (by omega) _).set _ _ (by omega) (by omega) _)
  have eM := set3_same (w := w41) (c := w.heap.size) (u0 := .bool (ng Z)) (u1 := .slice p41 (ln (am Z)) (ln (am Z))) (u2 := .slice q41 (ln V) (ln V)) q00 q01 q02
  have q00_ : ((((w41.setCell ⟨w.heap.size, 0, none⟩ (.bool (ng Z))).setCell ⟨w.heap.size, 1, none⟩ (.slice p41 (ln (am Z)) (ln (am Z)))).setCell ⟨w.heap.size, 2, none⟩ (.slice q41 (ln V) (ln V)))).cell? ⟨w.heap.size, 0, none⟩ = some (.bool (ng Z)) := eM.1
  have q01_ : ((((w41.setCell ⟨w.heap.size, 0, none⟩ (.bool (ng Z))).setCell ⟨w.heap.size, 1, none⟩ (.slice p41 (ln (am Z)) (ln (am Z)))).setCell ⟨w.heap.size, 2, none⟩ (.slice q41 (ln V) (ln V)))).cell? ⟨w.heap.size, 1, none⟩ = some (.slice p41 (ln (am Z)) (ln (am Z))) := eM.2.1
  have q02_ : ((((w41.setCell ⟨w.heap.size, 0, none⟩ (.bool (ng Z))).setCell ⟨w.heap.size, 1, none⟩ (.slice p41 (ln (am Z)) (ln (am Z)))).setCell ⟨w.heap.size, 2, none⟩ (.slice q41 (ln V) (ln V)))).cell? ⟨w.heap.size, 2, none⟩ = some (.slice q41 (ln V) (ln V)) := eM.2.2
  have hP0_ := (((hP0.setCell ⟨w.heap.size, 0, none⟩ (.bool (ng Z))).setCell ⟨w.heap.size, 1, none⟩ (.slice p41 (ln (am Z)) (ln (am Z)))).setCell ⟨w.heap.size, 2, none⟩ (.slice q41 (ln V) (ln V)))
  have fzhP0 := fun o => hP0.frozen o
  have khp41 := (hp41.mid hB hM).seg
  clear hp41
  have khq41 := (hq41.mid hB hM).seg
  clear hq41
  have hBn := (hB.trans (hBW.mono hB.size)).trans (hM.below (Nat.le_trans hB.size hBW.size))
  have hsM := hM.size
  clear hM eM
  go_wp2_with fail
  clear q00 q01 q02 hP0 fzhP0 hB hBW
  generalize (((w41.setCell ⟨w.heap.size, 0, none⟩ (.bool (ng Z))).setCell ⟨w.heap.size, 1, none⟩ (.slice p41 (ln (am Z)) (ln (am Z)))).setCell ⟨w.heap.size, 2, none⟩ (.slice q41 (ln V) (ln V))) = w41y at q00_ q01_ q02_ hP0_ khp41 khq41 hBn hsM ⊢
  have q00 := q00_
  clear q00_
  have q01 := q01_
  clear q01_
  have q02 := q02_
  clear q02_
  have hP0 := hP0_
  clear hP0_
  have hB := hBn
  clear hBn
  have hBW : Below w41y.heap.size w41y w41y := Below.refl _ _
  refine (T1.out _ _ khp41).mono ?_
  rintro e w42 ⟨rfl, b42⟩
  replace hBW := hBW.trans (b42.mono hBW.size)
  replace q00 := below_cell b42 q00
  replace q01 := below_cell b42 q01
  replace q02 := below_cell b42 q02
  replace hP0 := below_row b42 hP0
  replace khp41 := khp41.later b42
  replace khq41 := khq41.later b42
  go_wp2_with fail
  have nb := single_new w42 1 58 1 (by omega) rfl
  refine (I1.out _ _ _ (khq41.later nb.below) nb.seg).mono ?_
  rintro e w43 ⟨rfl, b43⟩
  replace b43 := nb.below.trans (b43.mono nb.below.size)
  clear nb
  replace hBW := hBW.trans (b43.mono hBW.size)
  replace q00 := below_cell b43 q00
  replace q01 := below_cell b43 q01
  replace q02 := below_cell b43 q02
  replace hP0 := below_row b43 hP0
  replace khp41 := khp41.later b43
  replace khq41 := khq41.later b43
  go_wp2_with fail
  refine (D1.out _ _ khq41).mono ?_
  rintro e w44 ⟨rfl, b44⟩
  replace hBW := hBW.trans (b44.mono hBW.size)
  replace q00 := below_cell b44 q00
  replace q01 := below_cell b44 q01
  replace q02 := below_cell b44 q02
  replace hP0 := below_row b44 hP0
  replace khp41 := khp41.later b44
  replace khq41 := khq41.later b44
  go_wp2
  go_ret
  exact ⟨rfl, (hB.trans (hBW.mono hB.size))⟩

end Go.Proofs.YtjbeagbkjmaeeaaGreatDoor
