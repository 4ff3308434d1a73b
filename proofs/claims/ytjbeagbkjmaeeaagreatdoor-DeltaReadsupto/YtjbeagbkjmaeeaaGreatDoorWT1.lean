/-
  Layer 1's texts: the digits' cells, digitOf, isText.
-/
import Derived.Test.YtjbeagbkjmaeeaaGreatDoorW8
import Derived.Test.YtjbeagbkjmaeeaaGreatDoorNumT
import Derived.Handy
namespace Go.Proofs.YtjbeagbkjmaeeaaGreatDoor
open Go.RowKit
set_option linter.unusedVariables false

theorem cellL {w w' : World} (h : Below w.heap.size w w') {p : Addr} {v : Value} (hc : w.cell? p = some v) : w'.cell? p = some v := by rw [h.cell (World.block_lt_of_cell? w p hc)]; exact hc
theorem segL {w1 w' : World} {a : Option Addr} {Z n : Nat} (hb : Below w1.heap.size w1 w') (h : Seg w1 a Z n) : Seg w' a Z n := h.below hb (Nat.le_refl _)
/-- the digits' cells, all of them -/
def Digs (w : World) : Prop := ∀ k, k < 16 → w.cell? ⟨3, k, none⟩ = some (.int .u8 (dch k : Nat))
theorem Digs.below {w w' : World} (h : Digs w) (hb : Below w.heap.size w w') : Digs w' := fun k hk => by
  rw [hb.cell (World.block_lt_of_cell? w _ (h k hk))]; exact h k hk

set_option maxHeartbeats 1000000 in
theorem digitOf_any (c b : Nat) (hc : c < 256) (hb : b ≤ 16) (w : World) (h : Digs w) :
    Calls Tryz.prog 123 #[.int .u8 c, .int .i64 b] w fun e w' => e = .returned (.int .i64 (dof c b : Nat)) ∧ w' = w := by
  go_enter Tryz.func123, Tryz.ntmps123
  go_wp2
  go_loop [7] (fun i => ∃ k : Nat, k ≤ b ∧ i = .int .i64 k ∧ ∀ j, j < k → dch j ≠ c) (fun i => b - (intOf i).toNat)
  case atStart => exact ⟨0, Nat.zero_le _, rfl, fun j hj => by omega⟩
  case round =>
    obtain ⟨k, hk, rfl, hj⟩ := hrel
    have HJ := hide' hj
    clear hj
    by_cases hlt : k < b
    · have hcell := h k (by omega)
      by_cases he : dch k = c
      · have hx : (((dch k : Nat) : Int) == (c : Int)) = true := by rw [he]; simp
        go_wp2
        go_ret
        refine ⟨?_, rfl⟩
        rw [dof_hit hb hlt he]; rfl
      · have hx : (((dch k : Nat) : Int) == (c : Int)) = false := by
          rw [beq_eq_false_iff_ne]; omega
        go_wp2
        go_round
        case rel => exact ⟨k + 1, by omega, by go_num, fun j hj => by
          by_cases e : j = k
          · rw [e]; exact he
          · exact HJ.out j (by omega)⟩
        case measure => simp [intOf]; omega
    · have e : k = b := by omega
      subst e
      go_wp2
      go_ret
      refine ⟨?_, rfl⟩
      rw [dof_miss hb HJ.out]; rfl

theorem ba_ne {s : ByteArray} (h0 : 0 < s.size) : (s == ByteArray.empty) = false := by
  show (s.data == #[]) = false
  rw [beq_eq_false_iff_ne]
  intro e
  have : s.data.size = 0 := by rw [e]; rfl
  have h1 : s.size = s.data.size := rfl
  omega
/-- it is a text: not empty, no needless nought ahead, all of it digits -/
def isT (b : Nat) (s : ByteArray) : Prop := 0 < s.size ∧ (1 < s.size → byt s 0 ≠ 48) ∧ ∀ k, k < s.size → dval (byt s k) < b

theorem ba_some {s : ByteArray} (h0 : 0 < s.size) : s.toList.isEmpty = false := by
  rw [ByteArray.toList_eq]
  cases hl : s.data.toList with
  | nil =>
    have h1 : s.size = s.data.toList.length := by rw [Array.length_toList]; rfl
    rw [hl] at h1
    have h2 : s.size = 0 := h1
    omega
  | cons _ _ => rfl
theorem ba_none {s : ByteArray} (h0 : s.size = 0) : s.toList.isEmpty = true := by
  rw [ByteArray.toList_eq]
  cases hl : s.data.toList with
  | nil => rfl
  | cons x l =>
    have h1 : s.size = s.data.toList.length := by rw [Array.length_toList]; rfl
    rw [hl] at h1
    have h2 : s.size = l.length + 1 := h1
    omega

set_option maxHeartbeats 2000000 in
theorem isText_any (s : ByteArray) (b : Nat) (hb : b ≤ 16) (hb0 : 2 ≤ b) (hs : s.size ≤ 9223372036854775807) (w : World) (h : Digs w) :
    Calls Tryz.prog 100 #[.string s, .int .i64 b] w fun e w' => (isT b s → e = .returned (.bool true)) ∧ (¬ isT b s → e = .returned (.bool false)) ∧ Dr w w' := by
  have HD := hide' (fun c w' (hc : c < 256) k => digitOf_any c b hc hb w' k)
  have HH := hide' h
  have g0 := h 0 (by omega)
  rw [show dch 0 = 48 from rfl] at g0
  by_cases h0 : 0 < s.size
  · have hem := ba_some h0
    have e0 := byt_of h0
    have hl0 : ((0 : Int) < (s.size : Int)) := by omega
    by_cases hl : 1 < s.size
    · have hl1 : ((1 : Int) < (s.size : Int)) := by omega
      by_cases hne : byt s 0 = 48
      · have hx : (((s[0]'h0).toNat : Int) == 48) = true := by rw [← e0, hne]; rfl
        go_enter Tryz.func100, Tryz.ntmps100
        go_wp2_with fail
        go_quiet (fail)
        go_wp2
        go_ret
        exact ⟨fun hi => absurd hne (hi.2.1 hl), fun _ => rfl, ⟨_, rfl⟩⟩
      · have hx : (((s[0]'h0).toNat : Int) == 48) = false := by rw [← e0, beq_eq_false_iff_ne]; omega
        have h1 : 1 < s.size → byt s 0 ≠ 48 := fun _ => hne
        go_enter Tryz.func100, Tryz.ntmps100
        go_wp2_with fail
        go_quiet (fail)
        go_wp2_with fail
        have hq : Dr w (w.drewN nq) := ⟨_, rfl⟩
        generalize w.drewN nq = wq at hq ⊢
        have hB := hq.below w.heap.size
        replace h := h.below hB
        have hs0 := hB.size
        go_loopw [22] (fun i wr => ∃ k : Nat, k ≤ s.size ∧ i = .int .i64 k ∧ Dr w wr ∧ ∀ j, j < k → dval (byt s j) < b) (fun i _ => s.size - (intOf i).toNat)
        case atStart => exact ⟨0, Nat.zero_le _, rfl, hq, fun j hj => by omega⟩
        case round =>
          obtain ⟨k, hk, rfl, hd, hj⟩ := hrel
          have HJ := hide' hj
          have hDw := HH.out.below (hd.below w.heap.size)
          clear hj
          by_cases hlt : k < s.size
          · have hki : ((k : Int) < (s.size : Int)) := by omega
            have eb := byt_of hlt
            by_cases hv : dval (byt s k) < b
            · have hx : (((dof (s[k]'hlt).toNat b : Nat) : Int) == (b : Int)) = false := by
                rw [beq_eq_false_iff_ne, ← eb, dof_of hv]; omega
              go_wp2_with fail
              refine (HD.out _ _ (by rw [← eb]; exact byt_lt s k) hDw).mono ?_
              rintro e w1 ⟨rfl, rfl⟩
              go_wp2
              go_roundw
              case rel => exact ⟨k + 1, by omega, by go_num, hd, fun j hj => by
                by_cases e : j = k
                · rw [e]; exact hv
                · exact HJ.out j (by omega)⟩
              case measure => simp [intOf]; omega
            · have hx : (((dof (s[k]'hlt).toNat b : Nat) : Int) == (b : Int)) = true := by
                rw [beq_iff_eq, ← eb]; unfold dof; rw [if_neg hv]
              go_wp2_with fail
              refine (HD.out _ _ (by rw [← eb]; exact byt_lt s k) hDw).mono ?_
              rintro e w1 ⟨rfl, rfl⟩
              go_wp2
              go_ret
              exact ⟨fun hi => absurd (hi.2.2 k hlt) hv, fun _ => rfl, hd⟩
          · go_wp2
            go_ret
            exact ⟨fun _ => rfl, fun hi => absurd ⟨h0, h1, fun j hj => HJ.out j (by omega)⟩ hi, hd⟩
    · have h1 : 1 < s.size → byt s 0 ≠ 48 := fun h => absurd h hl
      have hl1 : ((s.size : Int)) ≤ 1 := by omega
      have hl2 : decide ((1 : Int) < (s.size : Int)) = false := by rw [decide_eq_false_iff_not]; omega
      have hl3 : ¬ ((1 : Int) < (s.size : Int)) := by omega
      have hl4 : ¬ (1 < s.size) := hl
      go_enter Tryz.func100, Tryz.ntmps100
      go_wp2_with fail
      go_quiet (fail)
      go_wp2_with fail
      have hq : Dr w (w.drewN nq) := ⟨_, rfl⟩
      generalize w.drewN nq = wq at hq ⊢
      have hB := hq.below w.heap.size
      replace h := h.below hB
      have hs0 := hB.size
      go_loopw [22] (fun i wr => ∃ k : Nat, k ≤ s.size ∧ i = .int .i64 k ∧ Dr w wr ∧ ∀ j, j < k → dval (byt s j) < b) (fun i _ => s.size - (intOf i).toNat)
      case atStart => exact ⟨0, Nat.zero_le _, rfl, hq, fun j hj => by omega⟩
      case round =>
        obtain ⟨k, hk, rfl, hd, hj⟩ := hrel
        have HJ := hide' hj
        have hDw := HH.out.below (hd.below w.heap.size)
        clear hj
        by_cases hlt : k < s.size
        · have hki : ((k : Int) < (s.size : Int)) := by omega
          have eb := byt_of hlt
          by_cases hv : dval (byt s k) < b
          · have hx : (((dof (s[k]'hlt).toNat b : Nat) : Int) == (b : Int)) = false := by
              rw [beq_eq_false_iff_ne, ← eb, dof_of hv]; omega
            go_wp2_with fail
            refine (HD.out _ _ (by rw [← eb]; exact byt_lt s k) hDw).mono ?_
            rintro e w1 ⟨rfl, rfl⟩
            go_wp2
            go_roundw
            case rel => exact ⟨k + 1, by omega, by go_num, hd, fun j hj => by
              by_cases e : j = k
              · rw [e]; exact hv
              · exact HJ.out j (by omega)⟩
            case measure => simp [intOf]; omega
          · have hx : (((dof (s[k]'hlt).toNat b : Nat) : Int) == (b : Int)) = true := by
              rw [beq_iff_eq, ← eb]; unfold dof; rw [if_neg hv]
            go_wp2_with fail
            refine (HD.out _ _ (by rw [← eb]; exact byt_lt s k) hDw).mono ?_
            rintro e w1 ⟨rfl, rfl⟩
            go_wp2
            go_ret
            exact ⟨fun hi => absurd (hi.2.2 k hlt) hv, fun _ => rfl, hd⟩
        · go_wp2
          go_ret
          exact ⟨fun _ => rfl, fun hi => absurd ⟨h0, h1, fun j hj => HJ.out j (by omega)⟩ hi, hd⟩
  · have hem := ba_none (s := s) (by omega)
    go_enter Tryz.func100, Tryz.ntmps100
    go_wp2_with fail
    go_quiet (fail)
    go_wp2
    go_ret
    exact ⟨fun hi => absurd hi.1 h0, fun _ => rfl, ⟨_, rfl⟩⟩
end Go.Proofs.YtjbeagbkjmaeeaaGreatDoor
