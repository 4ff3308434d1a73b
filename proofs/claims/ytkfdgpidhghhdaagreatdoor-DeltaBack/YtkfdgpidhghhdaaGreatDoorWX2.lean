/-
  Layer 3: Text, of both sides.
-/
import Derived.Test.YtkfdgpidhghhdaaGreatDoorWT1
import Derived.Test.YtkfdgpidhghhdaaGreatDoorW13
import Derived.Test.YtkfdgpidhghhdaaGreatDoorW4
import Derived.Test.YtkfdgpidhghhdaaGreatDoorWI1
import Derived.Test.YtkfdgpidhghhdaaGreatDoorWTD
import Derived.Test.YtkfdgpidhghhdaaGreatDoorW3
import Derived.Deep.AppendLies
import Derived.OwnWalk
import Derived.Test.YtkfdgpidhghhdaaGreatDoorWU1
import Derived.Test.YtkfdgpidhghhdaaGreatDoorWI4
import Derived.Test.YtkfdgpidhghhdaaGreatDoorWUA
import Derived.Test.YtkfdgpidhghhdaaGreatDoorWQN
import Derived.Test.YtkfdgpidhghhdaaGreatDoorWQ7
namespace Go.Proofs.YtkfdgpidhghhdaaGreatDoor
open Go.RowKit
set_option linter.unusedVariables false

theorem DS_at : ∀ (k : Nat) (h : k < 16), ((⟨#[48, 49, 50, 51, 52, 53, 54, 55, 56, 57, 97, 98, 99, 100, 101, 102]⟩ : ByteArray)[k]'h).toNat = dch k
  | 0, _ => rfl | 1, _ => rfl | 2, _ => rfl | 3, _ => rfl | 4, _ => rfl | 5, _ => rfl | 6, _ => rfl | 7, _ => rfl
  | 8, _ => rfl | 9, _ => rfl | 10, _ => rfl | 11, _ => rfl | 12, _ => rfl | 13, _ => rfl | 14, _ => rfl | 15, _ => rfl
  | k + 16, h => absurd h (by omega)

end Go.Proofs.YtkfdgpidhghhdaaGreatDoor

namespace Go.Proofs.YtkfdgpidhghhdaaGreatDoor
open Go.RowKit
set_option linter.unusedVariables false

end Go.Proofs.YtkfdgpidhghhdaaGreatDoor

namespace Go.Proofs.YtkfdgpidhghhdaaGreatDoor
open Go.RowKit
set_option linter.unusedVariables false

/-- the k lowest digits' bytes, from the lowest on -/
def rl (b X k : Nat) : List Value := (List.range k).map fun i => .int .u8 ((dch (X / b ^ i % b) : Nat) : Int)
theorem rl_succ (b X k : Nat) : rl b X (k + 1) = rl b X k ++ [.int .u8 ((dch (X / b ^ k % b) : Nat) : Int)] := by simp [rl, List.range_succ]
theorem rl_at {b X k i : Nat} (h : i < k) : (rl b X k)[i]? = some (.int .u8 ((dch (X / b ^ i % b) : Nat) : Int)) := by simp [rl, h]
def lenV : Value → Nat
  | .slice _ l _ => l
  | _ => 0
theorem info_u8 : ∃ i, Tryz.prog.info? 5 = some i ∧ i.zero = some (.int .u8 0) ∧ i.size = 1 ∧ i.bytes = 1 := by
  have h : (Tryz.prog.info? 5).map (fun i => (i.zero, i.size, i.bytes)) = some (some (.int .u8 0), 1, 1) := by kernel_rfl
  cases hi : Tryz.prog.info? 5 with
  | none => rw [hi] at h; cases h
  | some i =>
    rw [hi] at h
    simp only [Option.map_some, Option.some.injEq, Prod.mk.injEq] at h
    exact ⟨i, rfl, h.1, h.2.1, h.2.2⟩
/-- the state of the reference's loop: k digits are told, Y is left -/
structure Rt (w wr : World) (b X k Y : Nat) (ao : Option Addr) (v : Value) : Prop where
  seg : Seg wr ao Y (ln Y)
  own : wr.ownsRow w.heap.size 5 1 v k (rl b X k)
  off : 0 < ln Y → Away ao v
  below : Below w.heap.size w wr
  left : Y = X / b ^ k
  top : k = 0 ∨ b ^ (k - 1) ≤ X
theorem Rt.room {w wr : World} {b X k Y n : Nat} {ao : Option Addr} {v : Value} (h : Rt w wr b X k Y ao v) (hb : 2 ≤ b) (hX : X < BB ^ n) : k ≤ 32 * n + 1 := by
  rcases h.top with h1 | h1
  · omega
  · have h2 : 2 ^ (k - 1) ≤ X := Nat.le_trans (Nat.pow_le_pow_left hb _) h1
    rw [BB_eq, show (4294967296 : Nat) = 2 ^ 32 by decide, ← Nat.pow_mul] at hX
    have h3 := (Nat.pow_lt_pow_iff_right (a := 2) (by decide)).1 (Nat.lt_of_le_of_lt h2 hX)
    clear h1 h2 hX
    omega
theorem Rt.len {w wr : World} {b X k Y : Nat} {ao : Option Addr} {v : Value} (h : Rt w wr b X k Y ao v) : ∃ av cap, v = .slice av k cap := by
  rcases h.own.2 with ⟨rfl, rfl⟩ | ⟨g, cap, cur, rfl, _⟩
  · exact ⟨_, _, rfl⟩
  · exact ⟨_, _, rfl⟩
/-- behind one digit more -/
theorem Rt.next {w wr w1 w2 : World} {b X k Y g cap : Nat} {ao aq : Option Addr} {v : Value} (h : Rt w wr b X k Y ao v) (hb : 2 ≤ b) (hY : Y ≠ 0) (h1 : New wr w1 aq (Y / b) (ln (Y / b)))
    (hown : w2.ownsRow w.heap.size 5 1 (.slice (some ⟨g, 0, none⟩) (k + 1) cap) (k + 1) (rl b X k ++ [.int .u8 ((dch (Y % b) : Nat) : Int)])) (hgrow : (w1.alloc (.cells #[.int .u8 ((dch (Y % b) : Nat) : Int)] 5)).grownBy w2 v.ownBlock) (hat : v.ownBlock = some g ∨ g = w1.heap.size + 1) :
    Rt w w2 b X (k + 1) (Y / b) aq (.slice (some ⟨g, 0, none⟩) (k + 1) cap) := by
  have ba := below_alloc (w := w1) (.cells #[.int .u8 ((dch (Y % b) : Nat) : Int)] 5)
  have hvlt : ∀ g', v.ownBlock = some g' → g' < wr.heap.size := fun g' hg' => by
    rcases h.own.2 with ⟨rfl, _⟩ | ⟨g2, cap2, cur, rfl, _, hg2, _⟩
    · cases hg'
    · have : g2 = g' := by simpa [Value.ownBlock] using hg'
      subst this
      exact (Array.getElem?_eq_some_iff.1 hg2).1
  have away : 0 < ln (Y / b) → Away aq v := fun hn g' hg' => h1.off (hvlt g' hg') hn
  have seg2 : Seg w2 aq (Y / b) (ln (Y / b)) := by
    by_cases hn : 0 < ln (Y / b)
    · exact (segL ba h1.seg).grown hgrow (away hn)
    · have := h1.seg.1
      obtain hz : ln (Y / b) = 0 := by omega
      rw [hz] at this ⊢
      exact ⟨this, fun h => absurd h (by omega)⟩
  refine ⟨seg2, ?_, fun hn g' hg' o => ?_, ?_, ?_, .inr ?_⟩
  · rw [rl_succ, ← h.left]; exact hown
  · have e : g' = g := by simpa [Value.ownBlock] using hg'.symm
    subst e
    rcases hat with h2 | h2
    · exact away hn g' h2 o
    · exact h1.seg.ne_new hn (by omega) o
  · have b1 := h.below.trans (h1.below.mono h.below.size)
    have b2 := b1.trans (ba.mono b1.size)
    exact b2.trans (grown_below hgrow b2.size (fun g' hg' => owns_ge h.own hg'))
  · rw [h.left, Nat.div_div_eq_div_mul, ← Nat.pow_succ]
  · rw [Nat.add_sub_cancel]
    rcases Nat.lt_or_ge X (b ^ k) with h2 | h2
    · exact absurd (by rw [h.left, Nat.div_eq_of_lt h2]) hY
    · exact h2
end Go.Proofs.YtkfdgpidhghhdaaGreatDoor

namespace Go.Proofs.YtkfdgpidhghhdaaGreatDoor
open Go.RowKit
set_option linter.unusedVariables false

theorem tx_zero {b : Nat} (hb : 2 ≤ b) : isTx b 0 ⟨#[48]⟩ := by
  refine ⟨by decide, Nat.pow_pos (by omega), .inl rfl, fun j hj => ?_⟩
  have : j = 0 := by have : j < 1 := hj; omega
  subst this
  unfold dgt
  rw [Nat.zero_div, Nat.zero_mod]
  rfl
end Go.Proofs.YtkfdgpidhghhdaaGreatDoor

namespace Go.Proofs.YtkfdgpidhghhdaaGreatDoor
open Go.RowKit
set_option linter.unusedVariables false

theorem one_ln {V : Nat} (h : ln V ≠ 1) : V ≠ 1 := fun e => h (by rw [e]; exact ln_one)
set_option maxHeartbeats 1000000 in
theorem isOne_is (q : Option Addr) (V : Nat) (w : World) (hm : ln V ≤ 70368744177664) (hS : Seg w q V (ln V)) :
    Calls Tryz.prog 25 #[.slice q (ln V) (ln V)] w fun e w' => e = .returned (.bool (decide (V = 1))) ∧ w' = w := by
  by_cases h1 : ln V = 1
  · have hV := ln_lt V
    rw [h1, Nat.pow_one, BB_eq] at hV
    rw [h1] at hS ⊢
    obtain ⟨b, off, rfl, hb, hc⟩ := hS.2 (by omega)
    have hc0 := hc 0 (by omega)
    rw [dg0, Nat.mod_eq_of_lt hV, Nat.add_zero] at hc0
    have hx : ((V : Int) == 1) = decide (V = 1) := by
      rw [Bool.eq_iff_iff, beq_iff_eq, decide_eq_true_eq]; omega
    go_enter Tryz.func25, Tryz.ntmps25
    go_wp2
    go_ret
    exact ⟨by first | rfl | simp [hx], rfl⟩
  · have hb : ((ln V : Int) == 1) = false := by rw [beq_eq_false_iff_ne]; omega
    have hd : decide (V = 1) = false := decide_eq_false (one_ln h1)
    rw [hd]
    go_enter Tryz.func25, Tryz.ntmps25
    go_wp2
    go_ret
    exact ⟨rfl, rfl⟩
set_option maxHeartbeats 1000000 in
theorem digits_is (a : Option Addr) (n cap X : Nat) (t : ByteArray) (w : World) (h : Digs w) (hc : n ≤ cap) (hn : n ≤ 1073741824) (hS : Seg w a X n) (ht : isTx 10 X t) :
    Calls Tryz.prog 27 #[.slice a n cap] w fun e w' => e = .returned (.string t) ∧ Below w.heap.size w w' := by
  have HT := hide' ht
  clear ht
  go_enter Tryz.func27, Tryz.ntmps27
  go_wp2_with fail
  refine (Text_any a n cap X 10 (by omega) (by omega) w h hc hn hS).mono ?_
  rintro e w1 ⟨u, rfl, hu, b1⟩
  obtain rfl := hu.uniq (by omega) HT.out
  go_wp2
  go_ret
  exact ⟨rfl, b1⟩
set_option maxHeartbeats 1000000 in
theorem rSame_any (ao ao2 : Option Addr) (n cap X m cap2 Y : Nat) (w : World) (hm : n ≤ 70368744177664) (hm2 : m ≤ 70368744177664) (hS : Seg w ao X n) (hS2 : Seg w ao2 Y m) :
    Calls Tryz.prog 58 #[.slice ao n cap, .slice ao2 m cap2] w fun e w' => e = .returned (.bool (sameB n m X Y)) ∧ Dr w w' := by
  by_cases hnm : n = m
  · subst hnm
    go_enter Tryz.func58, Tryz.ntmps58
    go_wp2
    go_loopw [5] (fun i wr => ∃ k : Nat, k ≤ n ∧ i = .int .i64 k ∧ Dr w wr ∧ ∀ j, j < k → dg X j = dg Y j) (fun i _ => n - (intOf i).toNat)
    case atStart => exact ⟨0, Nat.zero_le _, rfl, Dr.refl _, fun j hj => absurd hj (by omega)⟩
    case round =>
      obtain ⟨k, hk, rfl, hdr, hd⟩ := hrel
      have HD : Hid (∀ j, j < k → dg X j = dg Y j) := hd
      clear hd
      by_cases hlt : k < n
      · have hTr := hS.dr hdr
        have hTr2 := hS2.dr hdr
        obtain ⟨b, off, rfl, hb', hcell⟩ := hTr.2 (by omega)
        obtain ⟨b2, off2, rfl, hb2', hcell2⟩ := hTr2.2 (by omega)
        have h1 := dg_lt X k
        have h2 := dg_lt Y k
        by_cases hx : dg X k = dg Y k
        · have hxb : (((dg X k : Nat) : Int) != ((dg Y k : Nat) : Int)) = false := by rw [hx]; simp
          have HX : Hid (dg X k = dg Y k) := hx
          clear hx
          go_wp2
          go_quiet (fail)
          go_wp2
          go_roundw
          case rel => exact ⟨k + 1, by omega, by go_num, hdr.drewN _, fun j hj => by
            by_cases e : j = k
            · rw [e]; exact HX.out
            · exact HD.out j (by omega)⟩
          case measure => simp [intOf]; omega
        · have hxb : (((dg X k : Nat) : Int) != ((dg Y k : Nat) : Int)) = true := by rw [bne_iff_ne]; omega
          have e : sameB n n X Y = false := by
            unfold sameB; rw [decide_eq_false]; rintro ⟨_, rfl⟩; exact hx rfl
          go_wp2
          go_quiet (fail)
          go_wp2
          go_ret
          exact ⟨by rw [e]; rfl, hdr.drewN _⟩
      · go_wp2
        go_ret
        have e : X = Y := dg_ext hS.1 hS2.1 fun i hi => HD.out i (by omega)
        exact ⟨by simp [sameB, e], hdr⟩
  · have hb : (((n : Nat) : Int) != ((m : Nat) : Int)) = true := by rw [bne_iff_ne]; omega
    have e : sameB n m X Y = false := by simp [sameB, hnm]
    go_enter Tryz.func58, Tryz.ntmps58
    go_wp2
    go_ret
    exact ⟨by rw [e]; rfl, Dr.refl _⟩
theorem rSame_one (q a1 : Option Addr) (V : Nat) (w : World) (hm : ln V ≤ 70368744177664) (hS : Seg w q V (ln V)) (h1 : Seg w a1 1 1) :
    Calls Tryz.prog 58 #[.slice q (ln V) (ln V), .slice a1 1 1] w fun e w' => e = .returned (.bool (decide (V = 1))) ∧ Below w.heap.size w w' := by
  refine (rSame_any q a1 (ln V) (ln V) V 1 1 1 w hm (by omega) hS h1).mono fun e w' ⟨he, hd⟩ => ⟨?_, hd.below _⟩
  rw [he]
  unfold sameB
  congr 2
  rw [decide_eq_decide]
  exact ⟨fun h => h.2, fun h => ⟨by rw [h]; exact ln_one, h⟩⟩
end Go.Proofs.YtkfdgpidhghhdaaGreatDoor

namespace Go.Proofs.YtkfdgpidhghhdaaGreatDoor
open Go.RowKit
set_option linter.unusedVariables false

end Go.Proofs.YtkfdgpidhghhdaaGreatDoor

namespace Go.Proofs.YtkfdgpidhghhdaaGreatDoor
open Go.RowKit
set_option linter.unusedVariables false

set_option maxHeartbeats 4000000 in
set_option maxRecDepth 100000 in
theorem qText_one (s0 : Bool) (a0 : Option Addr) (n0 c0 X0 : Nat) (b0 : Option Addr) (m0 d0 Y0 : Nat) (Z : Int) (V : Nat) (u d : ByteArray) (w : World) (hc0 : n0 ≤ c0) (hm0 : n0 ≤ 134217728) (hS0 : Seg w a0 X0 n0) (hd0 : m0 ≤ d0) (hk0 : m0 ≤ 134217728) (hT0 : Seg w b0 Y0 m0) (hL : Low (rn s0 X0 Y0) (rd Y0 : Nat) Z V) (hu : isTz (ng Z) (am Z) u) (hd : isTx 10 V d) (h : Digs w) (h1 : V = 1) :
    Calls Tryz.prog 13 #[Value.agg #[Value.bool s0, Value.slice a0 n0 c0, Value.slice b0 m0 d0]] w fun e w' => e = .returned (.string (u)) ∧ Below w.heap.size w w' := by
  obtain ⟨lZ, lV⟩ := low_ln hS0.1 hT0.1 hL
  have zu := hu.size_le (ln_lt (am Z))
  have zd := hd.size_le (by omega) (ln_lt V)
  have x1 : ¬ (9223372036854775807 < u.size + 1) := by omega
  have x2 : u.size + 1 ≤ 9223372036854775807 := by omega
  have x3 : ¬ (9223372036854775807 < u.size + 1 + d.size) := by omega
  have x4 : u.size + 1 + d.size ≤ 9223372036854775807 := by omega
  have x5 : ¬ (9223372036854775807 < 1 + d.size) := by omega
  have x6 : 1 + d.size ≤ 9223372036854775807 := by omega
  have x7 : ¬ (9223372036854775807 < u.size + (1 + d.size)) := by omega
  have x8 : u.size + (1 + d.size) ≤ 9223372036854775807 := by omega
  have x9 : (⟨#[47]⟩ : ByteArray).size = 1 := rfl
  have G1 := hide' hL
  have I1 := hide' (fun w' p k => isOne_is p V w' (by omega) k)
  rw [decide_eq_true h1] at I1
  have T1 := hide' (fun w' a (k : Digs w') (g : Seg w' a (am Z) (ln (am Z))) => (wText_any (ng Z) a (ln (am Z)) (ln (am Z)) (am Z) w' k (Nat.le_refl _) (by omega) g).mono fun e w'' ⟨x, he, hx, hb⟩ => (⟨by rw [he, hx.uniq hu], hb⟩ : e = Ending.returned (Value.string u) ∧ Below w'.heap.size w' w''))
  have D1 := hide' (fun w' a (k : Digs w') (g : Seg w' a V (ln V)) => digits_is a (ln V) (ln V) V d w' k (Nat.le_refl _) (by omega) g hd)
  have HH := hide' h
  clear hL hu hd h h1 zu zd
  go_enter Tryz.func13, Tryz.ntmps13
  go_wp2_with fail
  obtain ⟨W, hW⟩ : ∃ W, (w.alloc (.cells #[.bool s0, .slice a0 n0 c0, .slice b0 m0 d0] 27)) = W := ⟨_, rfl⟩
  have q00 : W.cell? ⟨w.heap.size, 0, none⟩ = some (.bool s0) := by subst hW; go_simp
  have q01 : W.cell? ⟨w.heap.size, 1, none⟩ = some (.slice a0 n0 c0) := by subst hW; go_simp
  have q02 : W.cell? ⟨w.heap.size, 2, none⟩ = some (.slice b0 m0 d0) := by subst hW; go_simp
  have hB : Below w.heap.size w W := by subst hW; exact ((Below.refl _ _).alloc (by (try simp only [World.size_alloc]); omega) _)
  have hz : W.heap.size = w.heap.size + 1 := by subst hW; simp only [World.size_alloc]
  rw [hW]
  clear hW
  have hBW : Below W.heap.size W W := Below.refl _ _
  refine (qNorm_is s0 a0 n0 c0 X0 b0 m0 d0 Y0 Z V _ hc0 (by omega) (sb hS0 hB hBW) hd0 (by omega) (sb hT0 hB hBW) G1.out).mono ?_
  rintro e w41 ⟨p41, q41, rfl, hp41, hq41⟩
  have b41 := hp41.below
  replace hp41 := hp41.back hBW
  replace hq41 := hq41.back hBW
  replace hBW := hBW.trans (b41.mono hBW.size)
  replace q00 := below_cell b41 q00
  replace q01 := below_cell b41 q01
  replace q02 := below_cell b41 q02
  have hsz41 := hBW.size
  have l4100 : ((w41.alloc (.cells #[.bool (ng Z), .slice p41 (ln (am Z)) (ln (am Z)), .slice q41 (ln V) (ln V)] 27))).cell? ⟨w41.heap.size, 0, none⟩ = some (.bool (ng Z)) := by go_simp
  have l4101 : ((w41.alloc (.cells #[.bool (ng Z), .slice p41 (ln (am Z)) (ln (am Z)), .slice q41 (ln V) (ln V)] 27))).cell? ⟨w41.heap.size, 1, none⟩ = some (.slice p41 (ln (am Z)) (ln (am Z))) := by go_simp
  have l4102 : ((w41.alloc (.cells #[.bool (ng Z), .slice p41 (ln (am Z)) (ln (am Z)), .slice q41 (ln V) (ln V)] 27))).cell? ⟨w41.heap.size, 2, none⟩ = some (.slice q41 (ln V) (ln V)) := by go_simp
  have cb41 : Below w41.heap.size w41 ((w41.alloc (.cells #[.bool (ng Z), .slice p41 (ln (am Z)) (ln (am Z)), .slice q41 (ln V) (ln V)] 27))) := ((Below.refl _ _).alloc (by (try simp only [World.size_alloc]); omega) _)
  replace hBW := hBW.trans (cb41.mono hBW.size)
  replace q00 := below_cell cb41 q00
  replace q01 := below_cell cb41 q01
  replace q02 := below_cell cb41 q02
  replace hp41 := hp41.later cb41
  replace hq41 := hq41.later cb41
  have hL410 : Row ((w41.alloc (.cells #[.bool (ng Z), .slice p41 (ln (am Z)) (ln (am Z)), .slice q41 (ln V) (ln V)] 27))) (w41.heap.size) := by
    have := row_new (w41) #[.bool (ng Z), .slice p41 (ln (am Z)) (ln (am Z)), .slice q41 (ln V) (ln V)] 27
    try simp only [World.size_alloc] at this
    exact this
  go_wp2_with fail
  generalize (w41.alloc (.cells #[.bool (ng Z), .slice p41 (ln (am Z)) (ln (am Z)), .slice q41 (ln V) (ln V)] 27)) = w41x at q00 q01 q02 l4100 l4101 l4102 hL410 hp41 hq41 hBW cb41 ⊢
  clear cb41
  refine (I1.out _ _ hq41.seg).mono ?_
  rintro e w42 ⟨rfl, rfl⟩
  go_wp2_with fail
  refine (T1.out _ _ (HH.out.below (hB.trans (hBW.mono hB.size))) hp41.seg).mono ?_
  rintro e w43 ⟨rfl, b43⟩
  replace hBW := hBW.trans (b43.mono hBW.size)
  replace q00 := below_cell b43 q00
  replace q01 := below_cell b43 q01
  replace q02 := below_cell b43 q02
  replace l4100 := below_cell b43 l4100
  replace l4101 := below_cell b43 l4101
  replace l4102 := below_cell b43 l4102
  replace hL410 := below_row b43 hL410
  replace hp41 := hp41.later b43
  replace hq41 := hq41.later b43
  go_wp2
  go_ret
  exact ⟨rfl, (hB.trans (hBW.mono hB.size))⟩

set_option maxHeartbeats 4000000 in
set_option maxRecDepth 100000 in
theorem qText_more (s0 : Bool) (a0 : Option Addr) (n0 c0 X0 : Nat) (b0 : Option Addr) (m0 d0 Y0 : Nat) (Z : Int) (V : Nat) (u d : ByteArray) (w : World) (hc0 : n0 ≤ c0) (hm0 : n0 ≤ 134217728) (hS0 : Seg w a0 X0 n0) (hd0 : m0 ≤ d0) (hk0 : m0 ≤ 134217728) (hT0 : Seg w b0 Y0 m0) (hL : Low (rn s0 X0 Y0) (rd Y0 : Nat) Z V) (hu : isTz (ng Z) (am Z) u) (hd : isTx 10 V d) (h : Digs w) (h1 : V ≠ 1) :
    Calls Tryz.prog 13 #[Value.agg #[Value.bool s0, Value.slice a0 n0 c0, Value.slice b0 m0 d0]] w fun e w' => e = .returned (.string (u ++ (⟨#[47]⟩ : ByteArray) ++ d)) ∧ Below w.heap.size w w' := by
  obtain ⟨lZ, lV⟩ := low_ln hS0.1 hT0.1 hL
  have zu := hu.size_le (ln_lt (am Z))
  have zd := hd.size_le (by omega) (ln_lt V)
  have x1 : ¬ (9223372036854775807 < u.size + 1) := by omega
  have x2 : u.size + 1 ≤ 9223372036854775807 := by omega
  have x3 : ¬ (9223372036854775807 < u.size + 1 + d.size) := by omega
  have x4 : u.size + 1 + d.size ≤ 9223372036854775807 := by omega
  have x5 : ¬ (9223372036854775807 < 1 + d.size) := by omega
  have x6 : 1 + d.size ≤ 9223372036854775807 := by omega
  have x7 : ¬ (9223372036854775807 < u.size + (1 + d.size)) := by omega
  have x8 : u.size + (1 + d.size) ≤ 9223372036854775807 := by omega
  have x9 : (⟨#[47]⟩ : ByteArray).size = 1 := rfl
  have G1 := hide' hL
  have I1 := hide' (fun w' p k => isOne_is p V w' (by omega) k)
  rw [decide_eq_false h1] at I1
  have T1 := hide' (fun w' a (k : Digs w') (g : Seg w' a (am Z) (ln (am Z))) => (wText_any (ng Z) a (ln (am Z)) (ln (am Z)) (am Z) w' k (Nat.le_refl _) (by omega) g).mono fun e w'' ⟨x, he, hx, hb⟩ => (⟨by rw [he, hx.uniq hu], hb⟩ : e = Ending.returned (Value.string u) ∧ Below w'.heap.size w' w''))
  have D1 := hide' (fun w' a (k : Digs w') (g : Seg w' a V (ln V)) => digits_is a (ln V) (ln V) V d w' k (Nat.le_refl _) (by omega) g hd)
  have HH := hide' h
  clear hL hu hd h h1 zu zd
  go_enter Tryz.func13, Tryz.ntmps13
  go_wp2_with fail
  obtain ⟨W, hW⟩ : ∃ W, (w.alloc (.cells #[.bool s0, .slice a0 n0 c0, .slice b0 m0 d0] 27)) = W := ⟨_, rfl⟩
  have q00 : W.cell? ⟨w.heap.size, 0, none⟩ = some (.bool s0) := by subst hW; go_simp
  have q01 : W.cell? ⟨w.heap.size, 1, none⟩ = some (.slice a0 n0 c0) := by subst hW; go_simp
  have q02 : W.cell? ⟨w.heap.size, 2, none⟩ = some (.slice b0 m0 d0) := by subst hW; go_simp
  have hB : Below w.heap.size w W := by subst hW; exact ((Below.refl _ _).alloc (by (try simp only [World.size_alloc]); omega) _)
  have hz : W.heap.size = w.heap.size + 1 := by subst hW; simp only [World.size_alloc]
  rw [hW]
  clear hW
  have hBW : Below W.heap.size W W := Below.refl _ _
  refine (qNorm_is s0 a0 n0 c0 X0 b0 m0 d0 Y0 Z V _ hc0 (by omega) (sb hS0 hB hBW) hd0 (by omega) (sb hT0 hB hBW) G1.out).mono ?_
  rintro e w41 ⟨p41, q41, rfl, hp41, hq41⟩
  have b41 := hp41.below
  replace hp41 := hp41.back hBW
  replace hq41 := hq41.back hBW
  replace hBW := hBW.trans (b41.mono hBW.size)
  replace q00 := below_cell b41 q00
  replace q01 := below_cell b41 q01
  replace q02 := below_cell b41 q02
  have hsz41 := hBW.size
  have l4100 : ((w41.alloc (.cells #[.bool (ng Z), .slice p41 (ln (am Z)) (ln (am Z)), .slice q41 (ln V) (ln V)] 27))).cell? ⟨w41.heap.size, 0, none⟩ = some (.bool (ng Z)) := by go_simp
  have l4101 : ((w41.alloc (.cells #[.bool (ng Z), .slice p41 (ln (am Z)) (ln (am Z)), .slice q41 (ln V) (ln V)] 27))).cell? ⟨w41.heap.size, 1, none⟩ = some (.slice p41 (ln (am Z)) (ln (am Z))) := by go_simp
  have l4102 : ((w41.alloc (.cells #[.bool (ng Z), .slice p41 (ln (am Z)) (ln (am Z)), .slice q41 (ln V) (ln V)] 27))).cell? ⟨w41.heap.size, 2, none⟩ = some (.slice q41 (ln V) (ln V)) := by go_simp
  have cb41 : Below w41.heap.size w41 ((w41.alloc (.cells #[.bool (ng Z), .slice p41 (ln (am Z)) (ln (am Z)), .slice q41 (ln V) (ln V)] 27))) := ((Below.refl _ _).alloc (by (try simp only [World.size_alloc]); omega) _)
  replace hBW := hBW.trans (cb41.mono hBW.size)
  replace q00 := below_cell cb41 q00
  replace q01 := below_cell cb41 q01
  replace q02 := below_cell cb41 q02
  replace hp41 := hp41.later cb41
  replace hq41 := hq41.later cb41
  have hL410 : Row ((w41.alloc (.cells #[.bool (ng Z), .slice p41 (ln (am Z)) (ln (am Z)), .slice q41 (ln V) (ln V)] 27))) (w41.heap.size) := by
    have := row_new (w41) #[.bool (ng Z), .slice p41 (ln (am Z)) (ln (am Z)), .slice q41 (ln V) (ln V)] 27
    try simp only [World.size_alloc] at this
    exact this
  go_wp2_with fail
  generalize (w41.alloc (.cells #[.bool (ng Z), .slice p41 (ln (am Z)) (ln (am Z)), .slice q41 (ln V) (ln V)] 27)) = w41x at q00 q01 q02 l4100 l4101 l4102 hL410 hp41 hq41 hBW cb41 ⊢
  clear cb41
  refine (I1.out _ _ hq41.seg).mono ?_
  rintro e w42 ⟨rfl, rfl⟩
  go_wp2_with fail
  replace hBW := hBW.drew
  replace hp41 := hp41.drew
  replace hq41 := hq41.drew
  first
    | go_region_held3 (fun w' => w'.cell? ⟨w.heap.size, 0, none⟩ = some (.bool s0) ∧ w'.cell? ⟨w.heap.size, 1, none⟩ = some (.slice a0 n0 c0) ∧ w'.cell? ⟨w.heap.size, 2, none⟩ = some (.slice b0 m0 d0) ∧ w'.cell? ⟨w41.heap.size, 0, none⟩ = some (.bool (ng Z)) ∧ w'.cell? ⟨w41.heap.size, 1, none⟩ = some (.slice p41 (ln (am Z)) (ln (am Z))) ∧ w'.cell? ⟨w41.heap.size, 2, none⟩ = some (.slice q41 (ln V) (ln V)) ∧ Below w.heap.size w w')
        (first | exact ⟨q00, q01, q02, l4100, l4101, l4102, hB.trans (hBW.mono hB.size)⟩ | exact kp6 b43 (by assumption) | exact kp6 b44 (by assumption) | exact kp6 (below_alloc _) (by assumption))
        (first
          | (go_at_call 26; refine (T1.out _ _ (HH.out.below (hB.trans (hBW.mono hB.size))) hp41.seg).mono ?_; rintro e w43 ⟨rfl, b43⟩; replace hBW := hBW.trans (b43.mono hBW.size); replace q00 := below_cell b43 q00; replace q01 := below_cell b43 q01; replace q02 := below_cell b43 q02; replace l4100 := below_cell b43 l4100; replace l4101 := below_cell b43 l4101; replace l4102 := below_cell b43 l4102; replace hL410 := below_row b43 hL410; replace hp41 := hp41.later b43; replace hq41 := hq41.later b43)
          | (go_at_call 27; refine (D1.out _ _ (HH.out.below (hB.trans (hBW.mono hB.size))) hq41.seg).mono ?_; rintro e w44 ⟨rfl, b44⟩; replace hBW := hBW.trans (b44.mono hBW.size); replace q00 := below_cell b44 q00; replace q01 := below_cell b44 q01; replace q02 := below_cell b44 q02; replace l4100 := below_cell b44 l4100; replace l4101 := below_cell b44 l4101; replace l4102 := below_cell b44 l4102; replace hL410 := below_row b44 hL410; replace hp41 := hp41.later b44; replace hq41 := hq41.later b44))
    | fail
  go_wp2
  go_ret
  exact ⟨rfl, (hB.trans (hBW.mono hB.size))⟩

end Go.Proofs.YtkfdgpidhghhdaaGreatDoor
