/-
  Layer 3: Text, of both sides.
-/
import Derived.Test.YticpdbnlbckbiaaGreatDoorWTD
import Derived.Test.YticpdbnlbckbiaaGreatDoorW3
import Derived.Test.YticpdbnlbckbiaaGreatDoorWT7
import Derived.Deep.AppendLies
import Derived.OwnWalk
import Derived.Test.YticpdbnlbckbiaaGreatDoorWU1
import Derived.Test.YticpdbnlbckbiaaGreatDoorWI4
import Derived.Test.YticpdbnlbckbiaaGreatDoorWUA
import Derived.Test.YticpdbnlbckbiaaGreatDoorWQN
import Derived.Test.YticpdbnlbckbiaaGreatDoorWQ7
namespace Go.Proofs.YticpdbnlbckbiaaGreatDoor
open Go.RowKit
set_option linter.unusedVariables false

end Go.Proofs.YticpdbnlbckbiaaGreatDoor

namespace Go.Proofs.YticpdbnlbckbiaaGreatDoor
open Go.RowKit
set_option linter.unusedVariables false

/-- the k lowest digits' bytes, from the lowest on -/
def rl (b X k : Nat) : List Value := (List.range k).map fun i => .int .u8 ((dch (X / b ^ i % b) : Nat) : Int)
theorem rl_succ (b X k : Nat) : rl b X (k + 1) = rl b X k ++ [.int .u8 ((dch (X / b ^ k % b) : Nat) : Int)] := by simp [rl, List.range_succ]
theorem rl_at {b X k i : Nat} (h : i < k) : (rl b X k)[i]? = some (.int .u8 ((dch (X / b ^ i % b) : Nat) : Int)) := by simp [rl, h]
def lenV : Value → Nat
  | .slice _ l _ => l
  | _ => 0
theorem info_u8 : ∃ i, Tryz.prog.info? 5 = some i ∧ i.zero = some (.int .u8 0) ∧ i.size = 1 ∧ i.bytes = 1 := by
  have h : (Tryz.prog.info? 5).map (fun i => (i.zero, i.size, i.bytes)) = some (some (.int .u8 0), 1, 1) := by kernel_rfl
  cases hi : Tryz.prog.info? 5 with
  | none => rw [hi] at h; cases h
  | some i =>
    rw [hi] at h
    simp only [Option.map_some, Option.some.injEq, Prod.mk.injEq] at h
    exact ⟨i, rfl, h.1, h.2.1, h.2.2⟩
/-- the state of the reference's loop: k digits are told, Y is left -/
structure Rt (w wr : World) (b X k Y : Nat) (ao : Option Addr) (v : Value) : Prop where
  seg : Seg wr ao Y (ln Y)
  own : wr.ownsRow w.heap.size 5 1 v k (rl b X k)
  off : 0 < ln Y → Away ao v
  below : Below w.heap.size w wr
  left : Y = X / b ^ k
  top : k = 0 ∨ b ^ (k - 1) ≤ X
theorem Rt.room {w wr : World} {b X k Y n : Nat} {ao : Option Addr} {v : Value} (h : Rt w wr b X k Y ao v) (hb : 2 ≤ b) (hX : X < BB ^ n) : k ≤ 32 * n + 1 := by
  rcases h.top with h1 | h1
  · omega
  · have h2 : 2 ^ (k - 1) ≤ X := Nat.le_trans (Nat.pow_le_pow_left hb _) h1
    rw [BB_eq, show (4294967296 : Nat) = 2 ^ 32 by decide, ← Nat.pow_mul] at hX
    have h3 := (Nat.pow_lt_pow_iff_right (a := 2) (by decide)).1 (Nat.lt_of_le_of_lt h2 hX)
    clear h1 h2 hX
    omega
theorem Rt.len {w wr : World} {b X k Y : Nat} {ao : Option Addr} {v : Value} (h : Rt w wr b X k Y ao v) : ∃ av cap, v = .slice av k cap := by
  rcases h.own.2 with ⟨rfl, rfl⟩ | ⟨g, cap, cur, rfl, _⟩
  · exact ⟨_, _, rfl⟩
  · exact ⟨_, _, rfl⟩
/-- behind one digit more -/
theorem Rt.next {w wr w1 w2 : World} {b X k Y g cap : Nat} {ao aq : Option Addr} {v : Value} (h : Rt w wr b X k Y ao v) (hb : 2 ≤ b) (hY : Y ≠ 0) (h1 : New wr w1 aq (Y / b) (ln (Y / b)))
    (hown : w2.ownsRow w.heap.size 5 1 (.slice (some ⟨g, 0, none⟩) (k + 1) cap) (k + 1) (rl b X k ++ [.int .u8 ((dch (Y % b) : Nat) : Int)])) (hgrow : (w1.alloc (.cells #[.int .u8 ((dch (Y % b) : Nat) : Int)] 5)).grownBy w2 v.ownBlock) (hat : v.ownBlock = some g ∨ g = w1.heap.size + 1) :
    Rt w w2 b X (k + 1) (Y / b) aq (.slice (some ⟨g, 0, none⟩) (k + 1) cap) := by
  have ba := below_alloc (w := w1) (.cells #[.int .u8 ((dch (Y % b) : Nat) : Int)] 5)
  have hvlt : ∀ g', v.ownBlock = some g' → g' < wr.heap.size := fun g' hg' => by
    rcases h.own.2 with ⟨rfl, _⟩ | ⟨g2, cap2, cur, rfl, _, hg2, _⟩
    · cases hg'
    · have : g2 = g' := by simpa [Value.ownBlock] using hg'
      subst this
      exact (Array.getElem?_eq_some_iff.1 hg2).1
  have away : 0 < ln (Y / b) → Away aq v := fun hn g' hg' => h1.off (hvlt g' hg') hn
  have seg2 : Seg w2 aq (Y / b) (ln (Y / b)) := by
    by_cases hn : 0 < ln (Y / b)
    · exact (segL ba h1.seg).grown hgrow (away hn)
    · have := h1.seg.1
      obtain hz : ln (Y / b) = 0 := by omega
      rw [hz] at this ⊢
      exact ⟨this, fun h => absurd h (by omega)⟩
  refine ⟨seg2, ?_, fun hn g' hg' o => ?_, ?_, ?_, .inr ?_⟩
  · rw [rl_succ, ← h.left]; exact hown
  · have e : g' = g := by simpa [Value.ownBlock] using hg'.symm
    subst e
    rcases hat with h2 | h2
    · exact away hn g' h2 o
    · exact h1.seg.ne_new hn (by omega) o
  · have b1 := h.below.trans (h1.below.mono h.below.size)
    have b2 := b1.trans (ba.mono b1.size)
    exact b2.trans (grown_below hgrow b2.size (fun g' hg' => owns_ge h.own hg'))
  · rw [h.left, Nat.div_div_eq_div_mul, ← Nat.pow_succ]
  · rw [Nat.add_sub_cancel]
    rcases Nat.lt_or_ge X (b ^ k) with h2 | h2
    · exact absurd (by rw [h.left, Nat.div_eq_of_lt h2]) hY
    · exact h2
end Go.Proofs.YticpdbnlbckbiaaGreatDoor

namespace Go.Proofs.YticpdbnlbckbiaaGreatDoor
open Go.RowKit
set_option linter.unusedVariables false

theorem tx_zero {b : Nat} (hb : 2 ≤ b) : isTx b 0 ⟨#[48]⟩ := by
  refine ⟨by decide, Nat.pow_pos (by omega), .inl rfl, fun j hj => ?_⟩
  have : j = 0 := by have : j < 1 := hj; omega
  subst this
  unfold dgt
  rw [Nat.zero_div, Nat.zero_mod]
  rfl
end Go.Proofs.YticpdbnlbckbiaaGreatDoor

namespace Go.Proofs.YticpdbnlbckbiaaGreatDoor
open Go.RowKit
set_option linter.unusedVariables false

theorem one_ln {V : Nat} (h : ln V ≠ 1) : V ≠ 1 := fun e => h (by rw [e]; exact ln_one)
set_option maxHeartbeats 1000000 in
theorem rSame_any (ao ao2 : Option Addr) (n cap X m cap2 Y : Nat) (w : World) (hm : n ≤ 70368744177664) (hm2 : m ≤ 70368744177664) (hS : Seg w ao X n) (hS2 : Seg w ao2 Y m) :
    Calls Tryz.prog 30 #[.slice ao n cap, .slice ao2 m cap2] w fun e w' => e = .returned (.bool (sameB n m X Y)) ∧ Dr w w' := by
  by_cases hnm : n = m
  · subst hnm
    go_enter Tryz.func30, Tryz.ntmps30
    go_wp2
    go_loopw [5] (fun i wr => ∃ k : Nat, k ≤ n ∧ i = .int .i64 k ∧ Dr w wr ∧ ∀ j, j < k → dg X j = dg Y j) (fun i _ => n - (intOf i).toNat)
    case atStart => exact ⟨0, Nat.zero_le _, rfl, Dr.refl _, fun j hj => absurd hj (by omega)⟩
    case round =>
      obtain ⟨k, hk, rfl, hdr, hd⟩ := hrel
      have HD : Hid (∀ j, j < k → dg X j = dg Y j) := hd
      clear hd
      by_cases hlt : k < n
      · have hTr := hS.dr hdr
        have hTr2 := hS2.dr hdr
        obtain ⟨b, off, rfl, hb', hcell⟩ := hTr.2 (by omega)
        obtain ⟨b2, off2, rfl, hb2', hcell2⟩ := hTr2.2 (by omega)
        have h1 := dg_lt X k
        have h2 := dg_lt Y k
        by_cases hx : dg X k = dg Y k
        · have hxb : (((dg X k : Nat) : Int) != ((dg Y k : Nat) : Int)) = false := by rw [hx]; simp
          have HX : Hid (dg X k = dg Y k) := hx
          clear hx
          go_wp2
          go_quiet (fail)
          go_wp2
          go_roundw
          case rel => exact ⟨k + 1, by omega, by go_num, hdr.drewN _, fun j hj => by
            by_cases e : j = k
            · rw [e]; exact HX.out
            · exact HD.out j (by omega)⟩
          case measure => simp [intOf]; omega
        · have hxb : (((dg X k : Nat) : Int) != ((dg Y k : Nat) : Int)) = true := by rw [bne_iff_ne]; omega
          have e : sameB n n X Y = false := by
            unfold sameB; rw [decide_eq_false]; rintro ⟨_, rfl⟩; exact hx rfl
          go_wp2
          go_quiet (fail)
          go_wp2
          go_ret
          exact ⟨by rw [e]; rfl, hdr.drewN _⟩
      · go_wp2
        go_ret
        have e : X = Y := dg_ext hS.1 hS2.1 fun i hi => HD.out i (by omega)
        exact ⟨by simp [sameB, e], hdr⟩
  · have hb : (((n : Nat) : Int) != ((m : Nat) : Int)) = true := by rw [bne_iff_ne]; omega
    have e : sameB n m X Y = false := by simp [sameB, hnm]
    go_enter Tryz.func30, Tryz.ntmps30
    go_wp2
    go_ret
    exact ⟨by rw [e]; rfl, Dr.refl _⟩
theorem rSame_one (q a1 : Option Addr) (V : Nat) (w : World) (hm : ln V ≤ 70368744177664) (hS : Seg w q V (ln V)) (h1 : Seg w a1 1 1) :
    Calls Tryz.prog 30 #[.slice q (ln V) (ln V), .slice a1 1 1] w fun e w' => e = .returned (.bool (decide (V = 1))) ∧ Below w.heap.size w w' := by
  refine (rSame_any q a1 (ln V) (ln V) V 1 1 1 w hm (by omega) hS h1).mono fun e w' ⟨he, hd⟩ => ⟨?_, hd.below _⟩
  rw [he]
  unfold sameB
  congr 2
  rw [decide_eq_decide]
  exact ⟨fun h => h.2, fun h => ⟨by rw [h]; exact ln_one, h⟩⟩
end Go.Proofs.YticpdbnlbckbiaaGreatDoor

namespace Go.Proofs.YticpdbnlbckbiaaGreatDoor
open Go.RowKit
set_option linter.unusedVariables false

end Go.Proofs.YticpdbnlbckbiaaGreatDoor

namespace Go.Proofs.YticpdbnlbckbiaaGreatDoor
open Go.RowKit
set_option linter.unusedVariables false

end Go.Proofs.YticpdbnlbckbiaaGreatDoor
