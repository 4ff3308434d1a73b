/-
  Plain, of both sides.
-/
import Derived.Test.YtmgecifbimhjkaaDoorTK4
namespace Go.Proofs.YtmgecifbimhjkaaDoor
open Go.RowKit
set_option linter.unusedVariables false
set_option linter.unusedSimpArgs false

/-- a name that is written without bars -/
def isPl (s : ByteArray) : Prop := 0 < s.size ∧ dgN (byt s 0) = false ∧ ∀ k, k < s.size → syN (byt s k) = true
theorem ba_len (s : ByteArray) : s.toList.length = s.size := by rw [ByteArray.toList_eq, Array.length_toList]; rfl
theorem ba_some {s : ByteArray} (h0 : 0 < s.size) : s.toList.isEmpty = false := by
  cases hl : s.toList with
  | nil => have := ba_len s; rw [hl] at this; have : s.size = 0 := this.symm; omega
  | cons _ _ => rfl
theorem ba_none {s : ByteArray} (h0 : s.size = 0) : s.toList.isEmpty = true := by
  cases hl : s.toList with
  | nil => rfl
  | cons x l => have := ba_len s; rw [hl, h0] at this; simp at this

set_option maxHeartbeats 2000000 in
set_option maxRecDepth 100000 in
theorem plain_is (s : ByteArray) (hs : s.size ≤ 140737488355328) (b : Bool) (hb : b = true ↔ isPl s) (w : World) :
    Calls Tryd.prog 20 #[.string s] w fun e w' => e = .returned (.bool b) ∧ Below w.heap.size w w' := by
  have HB := hideT hb
  clear hb
  have no : (∀ p : isPl s, False) → b = false := fun h => by
    cases hc : b with
    | false => rfl
    | true => exact (h (HB.out.1 hc)).elim
  have NO := hideT no
  clear no
  go_enter Tryd.func20, Tryd.ntmps20
  go_wp2
  go_loopw [] (fun wr => ∃ pos : Nat, pos ≤ s.size ∧ wr.heap[w.heap.size]? = some (.stringIter s pos) ∧ Below w.heap.size w wr ∧ (0 < pos → dgN (byt s 0) = false) ∧ ∀ k, k < pos → syN (byt s k) = true) (fun wr => s.size - wr.iterPos w.heap.size)
  case atStart => exact ⟨0, Nat.zero_le _, World.iter_heap _ _ _, below_iter0 _ _ _, fun h => absurd h (by omega), fun k hk => absurd hk (by omega)⟩
  case round =>
    obtain ⟨pos, hps, hit, hbw, hd, hk⟩ := hrel
    have HD := hideT hd
    have HK := hideT hk
    clear hd hk
    by_cases hp : pos < s.size
    · have hnx : ∀ ty, (Instr.next (.pointer (some ⟨w.heap.size, 0, none⟩)) true ty).run Tryd.prog wr = _ := fun ty => Lib.run_next_any_at wr w.heap.size s pos ty hit hp
      have hit2 := Lib.iterAt_heap wr w.heap.size s pos (pos + wid s pos) hit
      have hbw2 := Lib.below_iterAt hbw (k := w.heap.size) (Nat.le_refl _) s (pos + wid s pos)
      have hsz := (Array.getElem?_eq_some_iff.1 hit2).1
      have hwp := wid_pos hp
      have HW := hideT (wid_in hp)
      have HC := hideT (fun h => chr_low hp h)
      have HH := hideT (fun h => (chr_high hp h).1)
      change ∀ ty, (Instr.next (.pointer (some ⟨w.heap.size, 0, none⟩)) true ty).run Tryd.prog wr = .ok (.tuple #[.bool true, .int .i64 pos, .int .i32 (chr s pos : Nat)]) (wr.iterAt w.heap.size s (pos + wid s pos)) at hnx
      generalize chr s pos = r at hnx HC HH
      have H1 := hideT (fun w' => isSymbol_is r w')
      have H2 := hideT (fun w' => isDigit_is r w')
      cases hy : syN r
      · rw [hy] at H1
        have hv : b = false := NO.out (fun h => by
          by_cases hlo : byt s pos < 128
          · have e1 := (HC.out hlo).1
            rw [e1, h.2.2 pos hp] at hy
            exact absurd hy (by decide)
          · have := h.2.2 pos hp
            rw [syN_high (by omega)] at this
            exact absurd this (by decide))
        clear hy
        go_wp2_with fail
        refine (H1.out _).mono ?_
        rintro e w1 ⟨rfl, b1⟩
        go_wp2
        go_ret
        refine ⟨?_, hbw2.trans (b1.mono hbw2.size)⟩
        rw [hv]; rfl
      · rw [hy] at H1
        have hlo : byt s pos < 128 := by
          by_cases c : byt s pos < 128
          · exact c
          · rw [syN_high (HH.out (by omega))] at hy
            exact absurd hy (by decide)
        obtain ⟨er, ew⟩ := HC.out hlo
        rw [ew] at hnx hit2 hbw2 hsz
        have hns : pos + 1 ≤ s.size := by omega
        by_cases h0 : pos = 0
        · subst h0
          cases hg : dgN r
          · rw [hg] at H2
            have hg0 : dgN (byt s 0) = false := by rw [← er]; exact hg
            have hy0 : syN (byt s 0) = true := by rw [← er]; exact hy
            clear hg hy er ew hwp
            go_wp2_with fail
            refine (H1.out _).mono ?_
            rintro e w1 ⟨rfl, b1⟩
            go_wp2_with fail
            refine (H2.out _).mono ?_
            rintro e w2 ⟨rfl, rfl⟩
            have hit3 : w2.heap[w.heap.size]? = some (.stringIter s (0 + 1)) := by rw [b1.block _ hsz]; exact hit2
            go_wp2
            go_roundw
            case rel => exact ⟨0 + 1, by omega, hit3, hbw2.trans (b1.mono hbw2.size), fun _ => hg0, fun k hk => by
              obtain rfl : k = 0 := by omega
              exact hy0⟩
            case measure => simp only [World.iterPos, hit3, hit]; omega
          · rw [hg] at H2
            have hv : b = false := NO.out (fun h => by
              have := h.2.1
              rw [← er, hg] at this
              exact absurd this (by decide))
            clear hg hy er ew hwp
            go_wp2_with fail
            refine (H1.out _).mono ?_
            rintro e w1 ⟨rfl, b1⟩
            go_wp2_with fail
            refine (H2.out _).mono ?_
            rintro e w2 ⟨rfl, rfl⟩
            go_wp2
            go_ret
            refine ⟨?_, hbw2.trans (b1.mono hbw2.size)⟩
            rw [hv]; rfl
        · have hx : ((pos : Int) == 0) = false := by rw [beq_eq_false_iff_ne]; omega
          have hyp : syN (byt s pos) = true := by rw [← er]; exact hy
          clear hy er ew hwp
          go_wp2_with fail
          refine (H1.out _).mono ?_
          rintro e w1 ⟨rfl, b1⟩
          have hit3 : w1.heap[w.heap.size]? = some (.stringIter s (pos + 1)) := by rw [b1.block _ hsz]; exact hit2
          go_wp2
          go_roundw
          case rel => exact ⟨pos + 1, by omega, hit3, hbw2.trans (b1.mono hbw2.size), fun _ => HD.out (by omega), fun k hk => by
            by_cases e : k = pos
            · rw [e]; exact hyp
            · exact HK.out k (by omega)⟩
          case measure => simp only [World.iterPos, hit3, hit]; omega
    · have hnx : ∀ ty, (Instr.next (.pointer (some ⟨w.heap.size, 0, none⟩)) true ty).run Tryd.prog wr = _ := fun ty => Lib.run_next_end_at wr w.heap.size s pos ty hit hp
      by_cases h0 : s.size = 0
      · have hv : b = false := NO.out (fun h => by have := h.1; omega)
        have hx := ba_none h0
        go_wp2
        go_ret
        refine ⟨?_, hbw⟩
        rw [hv]; rfl
      · have hv : b = true := HB.out.2 ⟨by omega, HD.out (by omega), fun k hk => HK.out k (by omega)⟩
        have hx := ba_some (s := s) (by omega)
        go_wp2
        go_ret
        refine ⟨?_, hbw⟩
        rw [hv]; rfl

set_option maxHeartbeats 2000000 in
set_option maxRecDepth 100000 in
theorem rPlain_is (s : ByteArray) (hs : s.size ≤ 140737488355328) (b : Bool) (hb : b = true ↔ isPl s) (w : World) :
    Calls Tryd.prog 42 #[.string s] w fun e w' => e = .returned (.bool b) ∧ w' = w := by
  have HB := hideT hb
  clear hb
  have no : (∀ p : isPl s, False) → b = false := fun h => by
    cases hc : b with
    | false => rfl
    | true => exact (h (HB.out.1 hc)).elim
  have NO := hideT no
  clear no
  go_enter Tryd.func42, Tryd.ntmps42
  go_wp2
  go_loop [3] (fun i => ∃ k : Nat, k ≤ s.size ∧ i = .int .i64 k ∧ ∀ j, j < k → syN (byt s j) = true) (fun i => s.size - (intOf i).toNat)
  case atStart => exact ⟨0, Nat.zero_le _, rfl, fun j hj => by omega⟩
  case round =>
    obtain ⟨k, hk, rfl, hj⟩ := hrel
    have HJ := hideT hj
    clear hj
    by_cases hlt : k < s.size
    · have hki : ((k : Int) < (s.size : Int)) := by omega
      have H1 := hideT (fun w' => symbolByte_is (byt s k) w')
      cases hy : syN (byt s k)
      · have hv : b = false := NO.out (fun h => by have := h.2.2 k hlt; rw [hy] at this; exact absurd this (by decide))
        rw [hy, byt_of hlt] at H1
        clear hy
        go_wp2_with fail
        refine (H1.out _).mono ?_
        rintro e w1 ⟨rfl, rfl⟩
        go_wp2
        go_ret
        try rw [hv]
        exact ⟨rfl, rfl⟩
      · rw [hy, byt_of hlt] at H1
        have HY := hideT hy
        clear hy
        go_wp2_with fail
        refine (H1.out _).mono ?_
        rintro e w1 ⟨rfl, rfl⟩
        go_wp2
        go_round
        case rel => exact ⟨k + 1, by omega, by go_num, fun j hj => by
          by_cases e : j = k
          · rw [e]; exact HY.out
          · exact HJ.out j (by omega)⟩
        case measure => simp [intOf]; omega
    · have hki : ¬ ((k : Int) < (s.size : Int)) := by omega
      by_cases h0 : 0 < s.size
      · have h0i : (0 : Int) < (s.size : Int) := by omega
        have H2 := hideT (fun w' => digit_is (byt s 0) w')
        cases hg : dgN (byt s 0)
        · have hv : b = true := HB.out.2 ⟨h0, hg, fun j hj => HJ.out j (by omega)⟩
          rw [hg, byt_of h0] at H2
          clear hg
          go_wp2_with fail
          refine (H2.out _).mono ?_
          rintro e w1 ⟨rfl, rfl⟩
          go_wp2
          go_ret
          try rw [hv]
          exact ⟨rfl, rfl⟩
        · have hv : b = false := NO.out (fun h => by have := h.2.1; rw [hg] at this; exact absurd this (by decide))
          rw [hg, byt_of h0] at H2
          clear hg
          go_wp2_with fail
          refine (H2.out _).mono ?_
          rintro e w1 ⟨rfl, rfl⟩
          go_wp2
          go_ret
          try rw [hv]
          exact ⟨rfl, rfl⟩
      · have h0i : ¬ (0 : Int) < (s.size : Int) := by omega
        have h0d : decide ((0 : Int) < (s.size : Int)) = false := by rw [decide_eq_false_iff_not]; omega
        have hv : b = false := NO.out (fun h => by have := h.1; omega)
        go_wp2
        go_ret
        try rw [hv]
        exact ⟨rfl, rfl⟩
end Go.Proofs.YtmgecifbimhjkaaDoor
