/-
  What Print answers, as a relation; what it says of the text that is read again.
-/
import Derived.Test.YtpfmamimhhnbiaaGreatDoorTK4
import Derived.Shelf.Strconv.Clone
import Derived.Test.YtpfmamimhhnbiaaGreatDoorTR9
import Derived.Test.YtpfmamimhhnbiaaGreatDoorTSF
namespace Go.Proofs.YtpfmamimhhnbiaaGreatDoor
open Go.RowKit
set_option linter.unusedVariables false
set_option linter.unusedSimpArgs false

/-- a name that is written without bars -/
def isPl (s : ByteArray) : Prop := 0 < s.size ∧ dgN (byt s 0) = false ∧ ∀ k, k < s.size → syN (byt s k) = true
theorem ba_len (s : ByteArray) : s.toList.length = s.size := by rw [ByteArray.toList_eq, Array.length_toList]; rfl
theorem ba_some {s : ByteArray} (h0 : 0 < s.size) : s.toList.isEmpty = false := by
  cases hl : s.toList with
  | nil => have := ba_len s; rw [hl] at this; have : s.size = 0 := this.symm; omega
  | cons _ _ => rfl
theorem ba_none {s : ByteArray} (h0 : s.size = 0) : s.toList.isEmpty = true := by
  cases hl : s.toList with
  | nil => rfl
  | cons x l => have := ba_len s; rw [hl, h0] at this; simp at this

set_option maxHeartbeats 2000000 in
set_option maxRecDepth 100000 in
theorem plain_is (s : ByteArray) (hs : s.size ≤ 140737488355328) (b : Bool) (hb : b = true ↔ isPl s) (w : World) :
    Calls Tryz.prog 49 #[.string s] w fun e w' => e = .returned (.bool b) ∧ Below w.heap.size w w' := by
  have HB := hideT hb
  clear hb
  have no : (∀ p : isPl s, False) → b = false := fun h => by
    cases hc : b with
    | false => rfl
    | true => exact (h (HB.out.1 hc)).elim
  have NO := hideT no
  clear no
  go_enter Tryz.func49, Tryz.ntmps49
  go_wp2
  go_loopw [] (fun wr => ∃ pos : Nat, pos ≤ s.size ∧ wr.heap[w.heap.size]? = some (.stringIter s pos) ∧ Below w.heap.size w wr ∧ (0 < pos → dgN (byt s 0) = false) ∧ ∀ k, k < pos → syN (byt s k) = true) (fun wr => s.size - wr.iterPos w.heap.size)
  case atStart => exact ⟨0, Nat.zero_le _, World.iter_heap _ _ _, below_iter0 _ _ _, fun h => absurd h (by omega), fun k hk => absurd hk (by omega)⟩
  case round =>
    obtain ⟨pos, hps, hit, hbw, hd, hk⟩ := hrel
    have HD := hideT hd
    have HK := hideT hk
    clear hd hk
    by_cases hp : pos < s.size
    · have hnx : ∀ ty, (Instr.next (.pointer (some ⟨w.heap.size, 0, none⟩)) true ty).run Tryz.prog wr = _ := fun ty => Lib.run_next_any_at wr w.heap.size s pos ty hit hp
      have hit2 := Lib.iterAt_heap wr w.heap.size s pos (pos + wid s pos) hit
      have hbw2 := Lib.below_iterAt hbw (k := w.heap.size) (Nat.le_refl _) s (pos + wid s pos)
      have hsz := (Array.getElem?_eq_some_iff.1 hit2).1
      have hwp := wid_pos hp
      have HW := hideT (wid_in hp)
      have HC := hideT (fun h => chr_low hp h)
      have HH := hideT (fun h => (chr_high hp h).1)
      change ∀ ty, (Instr.next (.pointer (some ⟨w.heap.size, 0, none⟩)) true ty).run Tryz.prog wr = .ok (.tuple #[.bool true, .int .i64 pos, .int .i32 (chr s pos : Nat)]) (wr.iterAt w.heap.size s (pos + wid s pos)) at hnx
      generalize chr s pos = r at hnx HC HH
      have H1 := hideT (fun w' => isSymbol_is r w')
      have H2 := hideT (fun w' => isDigit_is r w')
      cases hy : syN r
      · rw [hy] at H1
        have hv : b = false := NO.out (fun h => by
          by_cases hlo : byt s pos < 128
          · have e1 := (HC.out hlo).1
            rw [e1, h.2.2 pos hp] at hy
            exact absurd hy (by decide)
          · have := h.2.2 pos hp
            rw [syN_high (by omega)] at this
            exact absurd this (by decide))
        clear hy
        go_wp2_with fail
        refine (H1.out _).mono ?_
        rintro e w1 ⟨rfl, b1⟩
        go_wp2
        go_ret
        refine ⟨?_, hbw2.trans (b1.mono hbw2.size)⟩
        rw [hv]; rfl
      · rw [hy] at H1
        have hlo : byt s pos < 128 := by
          by_cases c : byt s pos < 128
          · exact c
          · rw [syN_high (HH.out (by omega))] at hy
            exact absurd hy (by decide)
        obtain ⟨er, ew⟩ := HC.out hlo
        rw [ew] at hnx hit2 hbw2 hsz
        have hns : pos + 1 ≤ s.size := by omega
        by_cases h0 : pos = 0
        · subst h0
          cases hg : dgN r
          · rw [hg] at H2
            have hg0 : dgN (byt s 0) = false := by rw [← er]; exact hg
            have hy0 : syN (byt s 0) = true := by rw [← er]; exact hy
            clear hg hy er ew hwp
            go_wp2_with fail
            refine (H1.out _).mono ?_
            rintro e w1 ⟨rfl, b1⟩
            go_wp2_with fail
            refine (H2.out _).mono ?_
            rintro e w2 ⟨rfl, rfl⟩
            have hit3 : w2.heap[w.heap.size]? = some (.stringIter s (0 + 1)) := by rw [b1.block _ hsz]; exact hit2
            go_wp2
            go_roundw
            case rel => exact ⟨0 + 1, by omega, hit3, hbw2.trans (b1.mono hbw2.size), fun _ => hg0, fun k hk => by
              obtain rfl : k = 0 := by omega
              exact hy0⟩
            case measure => simp only [World.iterPos, hit3, hit]; omega
          · rw [hg] at H2
            have hv : b = false := NO.out (fun h => by
              have := h.2.1
              rw [← er, hg] at this
              exact absurd this (by decide))
            clear hg hy er ew hwp
            go_wp2_with fail
            refine (H1.out _).mono ?_
            rintro e w1 ⟨rfl, b1⟩
            go_wp2_with fail
            refine (H2.out _).mono ?_
            rintro e w2 ⟨rfl, rfl⟩
            go_wp2
            go_ret
            refine ⟨?_, hbw2.trans (b1.mono hbw2.size)⟩
            rw [hv]; rfl
        · have hx : ((pos : Int) == 0) = false := by rw [beq_eq_false_iff_ne]; omega
          have hyp : syN (byt s pos) = true := by rw [← er]; exact hy
          clear hy er ew hwp
          go_wp2_with fail
          refine (H1.out _).mono ?_
          rintro e w1 ⟨rfl, b1⟩
          have hit3 : w1.heap[w.heap.size]? = some (.stringIter s (pos + 1)) := by rw [b1.block _ hsz]; exact hit2
          go_wp2
          go_roundw
          case rel => exact ⟨pos + 1, by omega, hit3, hbw2.trans (b1.mono hbw2.size), fun _ => HD.out (by omega), fun k hk => by
            by_cases e : k = pos
            · rw [e]; exact hyp
            · exact HK.out k (by omega)⟩
          case measure => simp only [World.iterPos, hit3, hit]; omega
    · have hnx : ∀ ty, (Instr.next (.pointer (some ⟨w.heap.size, 0, none⟩)) true ty).run Tryz.prog wr = _ := fun ty => Lib.run_next_end_at wr w.heap.size s pos ty hit hp
      by_cases h0 : s.size = 0
      · have hv : b = false := NO.out (fun h => by have := h.1; omega)
        have hx := ba_none h0
        go_wp2
        go_ret
        refine ⟨?_, hbw⟩
        rw [hv]; rfl
      · have hv : b = true := HB.out.2 ⟨by omega, HD.out (by omega), fun k hk => HK.out k (by omega)⟩
        have hx := ba_some (s := s) (by omega)
        go_wp2
        go_ret
        refine ⟨?_, hbw⟩
        rw [hv]; rfl

set_option maxHeartbeats 2000000 in
set_option maxRecDepth 100000 in
theorem rPlain_is (s : ByteArray) (hs : s.size ≤ 140737488355328) (b : Bool) (hb : b = true ↔ isPl s) (w : World) :
    Calls Tryz.prog 43 #[.string s] w fun e w' => e = .returned (.bool b) ∧ w' = w := by
  have HB := hideT hb
  clear hb
  have no : (∀ p : isPl s, False) → b = false := fun h => by
    cases hc : b with
    | false => rfl
    | true => exact (h (HB.out.1 hc)).elim
  have NO := hideT no
  clear no
  go_enter Tryz.func43, Tryz.ntmps43
  go_wp2
  go_loop [3] (fun i => ∃ k : Nat, k ≤ s.size ∧ i = .int .i64 k ∧ ∀ j, j < k → syN (byt s j) = true) (fun i => s.size - (intOf i).toNat)
  case atStart => exact ⟨0, Nat.zero_le _, rfl, fun j hj => by omega⟩
  case round =>
    obtain ⟨k, hk, rfl, hj⟩ := hrel
    have HJ := hideT hj
    clear hj
    by_cases hlt : k < s.size
    · have hki : ((k : Int) < (s.size : Int)) := by omega
      have H1 := hideT (fun w' => symbolByte_is (byt s k) w')
      cases hy : syN (byt s k)
      · have hv : b = false := NO.out (fun h => by have := h.2.2 k hlt; rw [hy] at this; exact absurd this (by decide))
        rw [hy, byt_of hlt] at H1
        clear hy
        go_wp2_with fail
        refine (H1.out _).mono ?_
        rintro e w1 ⟨rfl, rfl⟩
        go_wp2
        go_ret
        try rw [hv]
        exact ⟨rfl, rfl⟩
      · rw [hy, byt_of hlt] at H1
        have HY := hideT hy
        clear hy
        go_wp2_with fail
        refine (H1.out _).mono ?_
        rintro e w1 ⟨rfl, rfl⟩
        go_wp2
        go_round
        case rel => exact ⟨k + 1, by omega, by go_num, fun j hj => by
          by_cases e : j = k
          · rw [e]; exact HY.out
          · exact HJ.out j (by omega)⟩
        case measure => simp [intOf]; omega
    · have hki : ¬ ((k : Int) < (s.size : Int)) := by omega
      by_cases h0 : 0 < s.size
      · have h0i : (0 : Int) < (s.size : Int) := by omega
        have H2 := hideT (fun w' => digit_is (byt s 0) w')
        cases hg : dgN (byt s 0)
        · have hv : b = true := HB.out.2 ⟨h0, hg, fun j hj => HJ.out j (by omega)⟩
          rw [hg, byt_of h0] at H2
          clear hg
          go_wp2_with fail
          refine (H2.out _).mono ?_
          rintro e w1 ⟨rfl, rfl⟩
          go_wp2
          go_ret
          try rw [hv]
          exact ⟨rfl, rfl⟩
        · have hv : b = false := NO.out (fun h => by have := h.2.1; rw [hg] at this; exact absurd this (by decide))
          rw [hg, byt_of h0] at H2
          clear hg
          go_wp2_with fail
          refine (H2.out _).mono ?_
          rintro e w1 ⟨rfl, rfl⟩
          go_wp2
          go_ret
          try rw [hv]
          exact ⟨rfl, rfl⟩
      · have h0i : ¬ (0 : Int) < (s.size : Int) := by omega
        have h0d : decide ((0 : Int) < (s.size : Int)) = false := by rw [decide_eq_false_iff_not]; omega
        have hv : b = false := NO.out (fun h => by have := h.1; omega)
        go_wp2
        go_ret
        try rw [hv]
        exact ⟨rfl, rfl⟩
end Go.Proofs.YtpfmamimhhnbiaaGreatDoor

namespace Go.Proofs
open Go.Shelf
def Tryz.laysM316_ren : Go.Shelf.Ren := ⟨fun | 316 => 91 | n => n, fun | 9 => 9 | 3 => 3 | 4 => 4 | 37 => 39 | 0 => 0 | 127 => 53 | 5 => 5 | n => n, fun | n => n⟩
theorem Tryz.laysM316 : Go.Proofs.LaysM.n316 Tryz.prog Tryz.laysM316_ren := {
  mixed := by kernel_rfl
  f316 := Tryz.func91.trans (congrArg some (by kernel_rfl))
  t0 := Tryz.underlying0
  a0 := Tryz.isAgg0
  z0 := Tryz.sizeOf0
  v0 := Tryz.zeroValue0
  t3 := Tryz.underlying3
  a3 := Tryz.isAgg3
  z3 := Tryz.sizeOf3
  v3 := Tryz.zeroValue3
  t4 := Tryz.underlying4
  a4 := Tryz.isAgg4
  z4 := Tryz.sizeOf4
  v4 := Tryz.zeroValue4
  t9 := Tryz.underlying9
  a9 := Tryz.isAgg9
  z9 := Tryz.sizeOf9
  v9 := Tryz.zeroValue9
  t37 := Tryz.underlying39
  a37 := Tryz.isAgg39
  z37 := Tryz.sizeOf39
  v37 := Tryz.zeroValue39
  t127 := Tryz.underlying53
  a127 := Tryz.isAgg53
  z127 := Tryz.sizeOf53
  v127 := Tryz.zeroValue53
  t5 := Tryz.underlying5
  a5 := Tryz.isAgg5
  z5 := Tryz.sizeOf5
  v5 := Tryz.zeroValue5
  i0 := by kernel_rfl
  i3 := by kernel_rfl
  i4 := by kernel_rfl
  i5 := by kernel_rfl
  i9 := by kernel_rfl
  i37 := by kernel_rfl
  i127 := by kernel_rfl }
end Go.Proofs
namespace Go.Proofs.YtpfmamimhhnbiaaGreatDoor
open Go.RowKit
set_option linter.unusedVariables false
set_option linter.unusedSimpArgs false
theorem liteClone_is (s : ByteArray) (hs : s.size ≤ 140737488355328) (w : World) : Calls Tryz.prog 91 #[.string s] w fun e w' => e = .returned (.string s) ∧ Below w.heap.size w w' :=
  Any.stringslite_Clone Tryz.laysM316 s w (by omega)
theorem clone_is (s : ByteArray) (hs : s.size ≤ 140737488355328) (w : World) : Calls Tryz.prog 75 #[.string s] w fun e w' => e = .returned (.string s) ∧ Below w.heap.size w w' := by
  have H := hideT (liteClone_is s hs w)
  go_enter Tryz.func75, Tryz.ntmps75
  go_wp2_with fail
  refine H.out.mono ?_
  rintro e w1 ⟨rfl, b1⟩
  go_wp2
  go_ret
  exact ⟨rfl, b1⟩

/-- a text has a byte that a question of characters holds of -/
def hasB (f : Nat → Bool) (s : ByteArray) : Prop := ∃ k, k < s.size ∧ f (byt s k) = true
set_option maxHeartbeats 2000000 in
set_option maxRecDepth 100000 in
theorem indexFunc_bar (s : ByteArray) (hs : s.size ≤ 140737488355328) (b : Bool) (hb : b = true ↔ hasB nbN s) (w : World) :
    Calls Tryz.prog 98 #[.string s, .func (.func 77) #[] #[], .bool true] w fun e w' => (∃ j : Int, e = .returned (.int .i64 j) ∧ decide (j ≥ 0) = b) ∧ Below w.heap.size w w' := by
  have HB := hideT hb
  clear hb
  go_enter Tryz.func98, Tryz.ntmps98
  go_wp2
  go_loopw [] (fun wr => ∃ pos : Nat, pos ≤ s.size ∧ wr.heap[w.heap.size]? = some (.stringIter s pos) ∧ Below w.heap.size w wr ∧ ∀ k, k < pos → nbN (byt s k) = false) (fun wr => s.size - wr.iterPos w.heap.size)
  case atStart => exact ⟨0, Nat.zero_le _, World.iter_heap _ _ _, below_iter0 _ _ _, fun k hk => absurd hk (by omega)⟩
  case round =>
    obtain ⟨pos, hps, hit, hbw, hk⟩ := hrel
    have HK := hideT hk
    clear hk
    by_cases hp : pos < s.size
    · have hnx : ∀ ty, (Instr.next (.pointer (some ⟨w.heap.size, 0, none⟩)) true ty).run Tryz.prog wr = _ := fun ty => Lib.run_next_any_at wr w.heap.size s pos ty hit hp
      have hit2 := Lib.iterAt_heap wr w.heap.size s pos (pos + wid s pos) hit
      have hbw2 := Lib.below_iterAt hbw (k := w.heap.size) (Nat.le_refl _) s (pos + wid s pos)
      have hwp := wid_pos hp
      have HW := hideT (wid_in hp)
      have HC := hideT (fun h => chr_low hp h)
      have HH := hideT (fun h => (chr_high hp h).1)
      change ∀ ty, (Instr.next (.pointer (some ⟨w.heap.size, 0, none⟩)) true ty).run Tryz.prog wr = .ok (.tuple #[.bool true, .int .i64 pos, .int .i32 (chr s pos : Nat)]) (wr.iterAt w.heap.size s (pos + wid s pos)) at hnx
      generalize chr s pos = r at hnx HC HH
      generalize wid s pos = n at hnx HC HW hit2 hbw2 hwp
      have H1 := hideT (fun w' => mayNotBeBarred_is r w')
      cases hy : nbN r
      · rw [hy] at H1
        have hlast : ∀ k, k < pos + n → nbN (byt s k) = false := fun k hk => by
          by_cases h1 : k < pos
          · exact HK.out k h1
          · by_cases h2 : k = pos
            · subst h2
              by_cases hlo : byt s k < 128
              · rw [← (HC.out hlo).1]; exact hy
              · exact nbN_high (by omega)
            · exact nbN_high (HW.out.2 k (by omega) hk)
        have hle : pos + n ≤ s.size := HW.out.1
        have HL := hideT hlast
        clear hy hlast
        go_wp2_with fail
        refine (H1.out _).mono ?_
        rintro e w1 ⟨rfl, rfl⟩
        go_wp2
        go_roundw
        case rel => exact ⟨pos + n, hle, hit2, hbw2, HL.out⟩
        case measure => simp only [World.iterPos, hit2, hit]; omega
      · rw [hy] at H1
        have hv : b = true := HB.out.2 ⟨pos, hp, by
          by_cases hlo : byt s pos < 128
          · rw [← (HC.out hlo).1]; exact hy
          · rw [nbN_high (HH.out (by omega))] at hy
            exact absurd hy (by decide)⟩
        clear hy
        go_wp2_with fail
        refine (H1.out _).mono ?_
        rintro e w1 ⟨rfl, rfl⟩
        go_wp2
        go_ret
        refine ⟨⟨_, rfl, ?_⟩, hbw2⟩
        rw [hv]
        simp
    · have hnx : ∀ ty, (Instr.next (.pointer (some ⟨w.heap.size, 0, none⟩)) true ty).run Tryz.prog wr = _ := fun ty => Lib.run_next_end_at wr w.heap.size s pos ty hit hp
      have hv : b = false := by
        cases hc : b with
        | false => rfl
        | true =>
          obtain ⟨k, h1, h2⟩ := HB.out.1 hc
          rw [HK.out k (by omega)] at h2
          exact absurd h2 (by decide)
      go_wp2
      go_ret
      refine ⟨⟨_, rfl, ?_⟩, hbw⟩
      rw [hv]
      decide
theorem indexFuncT_bar (s : ByteArray) (hs : s.size ≤ 140737488355328) (b : Bool) (hb : b = true ↔ hasB nbN s) (w : World) :
    Calls Tryz.prog 92 #[.string s, .func (.func 77) #[] #[]] w fun e w' => (∃ j : Int, e = .returned (.int .i64 j) ∧ decide (j ≥ 0) = b) ∧ Below w.heap.size w w' := by
  have H := hideT (indexFunc_bar s hs b hb w)
  clear hb
  go_enter Tryz.func92, Tryz.ntmps92
  go_wp2_with fail
  refine H.out.mono ?_
  rintro e w1 ⟨⟨j, rfl, hj⟩, b1⟩
  go_wp2
  go_ret
  exact ⟨⟨j, rfl, hj⟩, b1⟩
theorem containsFunc_bar (s : ByteArray) (hs : s.size ≤ 140737488355328) (b : Bool) (hb : b = true ↔ hasB nbN s) (w : World) :
    Calls Tryz.prog 76 #[.string s, .func (.func 77) #[] #[]] w fun e w' => e = .returned (.bool b) ∧ Below w.heap.size w w' := by
  have H := hideT (indexFuncT_bar s hs b hb w)
  clear hb
  go_enter Tryz.func76, Tryz.ntmps76
  go_wp2_with fail
  refine H.out.mono ?_
  rintro e w1 ⟨⟨j, rfl, hj⟩, b1⟩
  go_wp2_with fail
  go_ret
  refine ⟨?_, b1⟩
  rw [← hj]; rfl

set_option maxHeartbeats 2000000 in
set_option maxRecDepth 100000 in
theorem indexFunc_quo (s : ByteArray) (hs : s.size ≤ 140737488355328) (b : Bool) (hb : b = true ↔ hasB nqN s) (w : World) :
    Calls Tryz.prog 98 #[.string s, .func (.func 80) #[] #[], .bool true] w fun e w' => (∃ j : Int, e = .returned (.int .i64 j) ∧ decide (j ≥ 0) = b) ∧ Below w.heap.size w w' := by
  have HB := hideT hb
  clear hb
  go_enter Tryz.func98, Tryz.ntmps98
  go_wp2
  go_loopw [] (fun wr => ∃ pos : Nat, pos ≤ s.size ∧ wr.heap[w.heap.size]? = some (.stringIter s pos) ∧ Below w.heap.size w wr ∧ ∀ k, k < pos → nqN (byt s k) = false) (fun wr => s.size - wr.iterPos w.heap.size)
  case atStart => exact ⟨0, Nat.zero_le _, World.iter_heap _ _ _, below_iter0 _ _ _, fun k hk => absurd hk (by omega)⟩
  case round =>
    obtain ⟨pos, hps, hit, hbw, hk⟩ := hrel
    have HK := hideT hk
    clear hk
    by_cases hp : pos < s.size
    · have hnx : ∀ ty, (Instr.next (.pointer (some ⟨w.heap.size, 0, none⟩)) true ty).run Tryz.prog wr = _ := fun ty => Lib.run_next_any_at wr w.heap.size s pos ty hit hp
      have hit2 := Lib.iterAt_heap wr w.heap.size s pos (pos + wid s pos) hit
      have hbw2 := Lib.below_iterAt hbw (k := w.heap.size) (Nat.le_refl _) s (pos + wid s pos)
      have hwp := wid_pos hp
      have HW := hideT (wid_in hp)
      have HC := hideT (fun h => chr_low hp h)
      have HH := hideT (fun h => (chr_high hp h).1)
      change ∀ ty, (Instr.next (.pointer (some ⟨w.heap.size, 0, none⟩)) true ty).run Tryz.prog wr = .ok (.tuple #[.bool true, .int .i64 pos, .int .i32 (chr s pos : Nat)]) (wr.iterAt w.heap.size s (pos + wid s pos)) at hnx
      generalize chr s pos = r at hnx HC HH
      generalize wid s pos = n at hnx HC HW hit2 hbw2 hwp
      have H1 := hideT (fun w' => mayNotBeQuoted_is r w')
      cases hy : nqN r
      · rw [hy] at H1
        have hlast : ∀ k, k < pos + n → nqN (byt s k) = false := fun k hk => by
          by_cases h1 : k < pos
          · exact HK.out k h1
          · by_cases h2 : k = pos
            · subst h2
              by_cases hlo : byt s k < 128
              · rw [← (HC.out hlo).1]; exact hy
              · exact nqN_high (by omega)
            · exact nqN_high (HW.out.2 k (by omega) hk)
        have hle : pos + n ≤ s.size := HW.out.1
        have HL := hideT hlast
        clear hy hlast
        go_wp2_with fail
        refine (H1.out _).mono ?_
        rintro e w1 ⟨rfl, rfl⟩
        go_wp2
        go_roundw
        case rel => exact ⟨pos + n, hle, hit2, hbw2, HL.out⟩
        case measure => simp only [World.iterPos, hit2, hit]; omega
      · rw [hy] at H1
        have hv : b = true := HB.out.2 ⟨pos, hp, by
          by_cases hlo : byt s pos < 128
          · rw [← (HC.out hlo).1]; exact hy
          · rw [nqN_high (HH.out (by omega))] at hy
            exact absurd hy (by decide)⟩
        clear hy
        go_wp2_with fail
        refine (H1.out _).mono ?_
        rintro e w1 ⟨rfl, rfl⟩
        go_wp2
        go_ret
        refine ⟨⟨_, rfl, ?_⟩, hbw2⟩
        rw [hv]
        simp
    · have hnx : ∀ ty, (Instr.next (.pointer (some ⟨w.heap.size, 0, none⟩)) true ty).run Tryz.prog wr = _ := fun ty => Lib.run_next_end_at wr w.heap.size s pos ty hit hp
      have hv : b = false := by
        cases hc : b with
        | false => rfl
        | true =>
          obtain ⟨k, h1, h2⟩ := HB.out.1 hc
          rw [HK.out k (by omega)] at h2
          exact absurd h2 (by decide)
      go_wp2
      go_ret
      refine ⟨⟨_, rfl, ?_⟩, hbw⟩
      rw [hv]
      decide
theorem indexFuncT_quo (s : ByteArray) (hs : s.size ≤ 140737488355328) (b : Bool) (hb : b = true ↔ hasB nqN s) (w : World) :
    Calls Tryz.prog 92 #[.string s, .func (.func 80) #[] #[]] w fun e w' => (∃ j : Int, e = .returned (.int .i64 j) ∧ decide (j ≥ 0) = b) ∧ Below w.heap.size w w' := by
  have H := hideT (indexFunc_quo s hs b hb w)
  clear hb
  go_enter Tryz.func92, Tryz.ntmps92
  go_wp2_with fail
  refine H.out.mono ?_
  rintro e w1 ⟨⟨j, rfl, hj⟩, b1⟩
  go_wp2
  go_ret
  exact ⟨⟨j, rfl, hj⟩, b1⟩
theorem containsFunc_quo (s : ByteArray) (hs : s.size ≤ 140737488355328) (b : Bool) (hb : b = true ↔ hasB nqN s) (w : World) :
    Calls Tryz.prog 76 #[.string s, .func (.func 80) #[] #[]] w fun e w' => e = .returned (.bool b) ∧ Below w.heap.size w w' := by
  have H := hideT (indexFuncT_quo s hs b hb w)
  clear hb
  go_enter Tryz.func76, Tryz.ntmps76
  go_wp2_with fail
  refine H.out.mono ?_
  rintro e w1 ⟨⟨j, rfl, hj⟩, b1⟩
  go_wp2_with fail
  go_ret
  refine ⟨?_, b1⟩
  rw [← hj]; rfl

end Go.Proofs.YtpfmamimhhnbiaaGreatDoor

namespace Go.Proofs.YtpfmamimhhnbiaaGreatDoor
set_option linter.unusedVariables false
set_option linter.unusedSimpArgs false

/-- each quote twice -/
def dbl : List UInt8 → List UInt8
  | [] => []
  | a :: l => if a = 34 then 34 :: 34 :: dbl l else a :: dbl l
theorem dbl_app (a b : List UInt8) : dbl (a ++ b) = dbl a ++ dbl b := by
  induction a with
  | nil => rfl
  | cons x a ih =>
    simp only [List.cons_append, dbl]
    split
    · rw [ih]; rfl
    · rw [ih]; rfl
theorem dbl_len (l : List UInt8) : l.length ≤ (dbl l).length ∧ (dbl l).length ≤ l.length * 2 := by
  induction l with
  | nil => exact ⟨Nat.le_refl _, Nat.zero_le _⟩
  | cons a l ih =>
    simp only [dbl]
    split
    · simp only [List.length_cons]; omega
    · simp only [List.length_cons]; omega
theorem dbl_none : ∀ (l : List UInt8), Lib.index l [34] = -1 → dbl l = l
  | [], _ => rfl
  | a :: l, h => by
    rw [Lib.index] at h
    split at h
    · omega
    rename_i hp
    have h2 : Lib.index l [34] = -1 := by
      split at h
      · rename_i q; exact beq_iff_eq.1 q
      · have := Lib.index_ge l [34]; omega
    have h3 : ¬ a = 34 := fun c => hp (by rw [c]; simp [List.isPrefixOf])
    rw [dbl, if_neg h3, dbl_none l h2]
theorem dbl_some : ∀ (l : List UInt8) (i : Nat), Lib.index l [34] = i → dbl l = l.take i ++ [34, 34] ++ dbl (l.drop (i + 1))
  | [], i, h => by simp [Lib.index] at h
  | a :: l, i, h => by
    rw [Lib.index] at h
    split at h
    · rename_i hp
      have ha : a = 34 := by
        simp [List.isPrefixOf] at hp
        exact hp.symm
      have hi : i = 0 := by omega
      subst hi
      rw [dbl, if_pos ha]
      simp
    rename_i hp
    split at h
    · omega
    have h3 : ¬ a = 34 := fun c => hp (by rw [c]; simp [List.isPrefixOf])
    have hge := Lib.index_ge l [34]
    rename_i hm
    have hm2 : Lib.index l [34] ≠ -1 := fun c => hm (by rw [c]; rfl)
    cases i with
    | zero => omega
    | succ k =>
      rw [dbl, if_neg h3, dbl_some l k (by omega)]
      simp
theorem repl_dbl : ∀ (k : Nat) (l : List UInt8), Lib.count l [34] = k → Lib.replaceK [34] [34, 34] k l = dbl l
  | 0, l, h => by
    rw [Lib.replaceK]
    symm
    apply dbl_none
    rcases Lib.index_spec l [34] with ⟨c, _⟩ | ⟨i, hi, _⟩
    · exact c
    · rw [Lib.count_hit (by decide) hi] at h; omega
  | k + 1, l, h => by
    obtain ⟨i, hi⟩ := Lib.index_of_count (s := l) (old := [34]) (by omega)
    rw [Lib.count_hit (by decide) hi] at h
    rw [Lib.replaceK_hit _ _ _ _ _ hi, dbl_some l i hi, repl_dbl k _ (by simpa using (show Lib.count (l.drop (i + [34].length)) [34] = k by omega))]
    rfl
theorem replaceAll_dbl (l : List UInt8) : Lib.replaceAll l [34] [34, 34] = dbl l := by
  unfold Lib.replaceAll Lib.replace
  rw [if_neg (by decide)]
  refine repl_dbl _ l ?_
  unfold Lib.replaceNum
  rw [if_pos (Or.inl (by decide))]

/-- a text that is one token -/
theorem all_one {S : List UInt8} {k : Nat} {t : ByteArray} {self : Bool} (h0 : 0 < S.length) (hs : 4 < startN (byS S 0)) (hl : lookP S 0 = .tok k t S.length self) : (allP S).1 = [tokAt S k t 0 S.length] ∧ (allP S).2 = 0 := by
  have h := look_step h0 hs
  rw [hl] at h
  have ht := allF_tok h
  rw [allF_end] at ht
  obtain ⟨z1, z2, _⟩ := allF_zero S
  rw [ht] at z1 z2
  exact ⟨z1.symm, z2.symm⟩
theorem runE_all {f : Nat → Bool} {S : List UInt8} (i : Nat) (hi : i ≤ S.length) (h : ∀ k, i ≤ k → k < S.length → f (byS S k) = true) : runE f S i = S.length := by
  by_cases hl : i < S.length
  · rw [runE_on hl (h i (Nat.le_refl _) hl)]
    exact runE_all (i + 1) (by omega) (fun k h1 h2 => h k (by omega) h2)
  · rw [runE_off (fun c => hl c.1)]; omega
termination_by S.length - i
decreasing_by omega
theorem subS_all (S : List UInt8) (i : Nat) : subS S i S.length = S.drop i := by
  unfold subS
  rw [List.take_of_length_le (by rw [List.length_drop]; omega)]
theorem one_symbol {S : List UInt8} (h0 : 0 < S.length) (hd : dgN (byS S 0) = false) (hy : ∀ k, k < S.length → syN (byS S k) = true) : (allP S).1 = [tokAt S 3 (bts S) 0 S.length] ∧ (allP S).2 = 0 := by
  have h1 := hy 0 h0
  obtain ⟨a1, a2, a3, a4, a5, a6, a7, a8, a9, a10⟩ := sy_ne h1
  refine all_one (self := false) h0 (by rw [start_sy h1 (by rw [hd]; decide)]; decide) ?_
  unfold lookP
  rw [if_neg a2, if_neg a3, if_neg a5, if_neg a4, if_neg a6, if_neg a7, if_neg (by rw [hd]; decide), if_pos h1, runE_all 0 (Nat.zero_le _) (fun k _ h => hy k h), subS_all, List.drop_zero]
theorem bar_all {S : List UInt8} (i j : Nat) (hj : j < S.length) (h : ∀ k, j ≤ k → k + 1 < S.length → nbN (byS S k) = false) (he : byS S (S.length - 1) = 124) : barP S i j = .tok 3 (bts (subS S (i + 1) (S.length - 1))) S.length true := by
  rw [barP, dif_pos hj]
  by_cases hl : j + 1 < S.length
  · have hn := h j (Nat.le_refl _) hl
    have h124 : ¬ byS S j = 124 := fun c => by rw [c] at hn; exact absurd hn (by decide)
    rw [if_neg h124, if_neg (by rw [hn]; decide)]
    exact bar_all i (j + 1) hl (fun k h1 h2 => h k (by omega) h2) he
  · have e : j = S.length - 1 := by omega
    rw [e, if_pos he]
    congr 1
    omega
termination_by S.length - j
decreasing_by omega
theorem one_barred {S : List UInt8} (h0 : 2 ≤ S.length) (hb : byS S 0 = 124) (h : ∀ k, 1 ≤ k → k + 1 < S.length → nbN (byS S k) = false) (he : byS S (S.length - 1) = 124) : (allP S).1 = [tokAt S 3 (bts (subS S 1 (S.length - 1))) 0 S.length] ∧ (allP S).2 = 0 := by
  refine all_one (self := true) (by omega) (by rw [hb]; decide) ?_
  unfold lookP
  rw [hb, if_neg (by decide), if_neg (by decide), if_neg (by decide), if_pos rfl]
  exact bar_all 0 1 (by omega) h he
theorem one_keyword {S : List UInt8} (h0 : 2 ≤ S.length) (hb : byS S 0 = 58) (hd : dgN (byS S 1) = false) (hy : ∀ k, 1 ≤ k → k < S.length → syN (byS S k) = true) : (allP S).1 = [tokAt S 4 (bts (S.drop 1)) 0 S.length] ∧ (allP S).2 = 0 := by
  refine all_one (self := false) (by omega) (by rw [hb]; decide) ?_
  unfold lookP
  rw [hb, if_neg (by decide), if_neg (by decide), if_neg (by decide), if_neg (by decide), if_pos rfl]
  unfold keyP
  rw [if_neg (by omega), if_neg (fun c => c ⟨hy 1 (by omega) (by omega), hd⟩), Nat.zero_add, runE_all 1 (by omega) hy, subS_all]
/-- what is quoted, from a place on -/
theorem qt_all {S : List UInt8} : ∀ (m : List UInt8) (j : Nat) (said : List UInt8), S.drop j = dbl m ++ [34] → (∀ u ∈ m, nqN u.toNat = false) → qtP S j said = .tok 9 (bts (said ++ m)) S.length false
  | [], j, said, hd, hn => by
    have hl : j < S.length := by
      rcases Nat.lt_or_ge j S.length with q | q
      · exact q
      · rw [List.drop_eq_nil_iff.2 q] at hd; cases hd
    have hlen : (S.drop j).length = 1 := by rw [hd]; rfl
    rw [List.length_drop] at hlen
    have hc := List.drop_eq_getElem_cons hl
    rw [hd] at hc
    injection hc with hc _
    have hb : byS S j = 34 := by rw [byS_at hl, ← hc]; rfl
    rw [qtP, dif_pos hl, if_pos hb, if_neg (fun c => by omega), List.append_nil]
    congr 1
    omega
  | u :: m, j, said, hd, hn => by
    have hl : j < S.length := by
      rcases Nat.lt_or_ge j S.length with q | q
      · exact q
      · rw [List.drop_eq_nil_iff.2 q] at hd
        simp only [dbl] at hd
        split at hd <;> cases hd
    have hc := List.drop_eq_getElem_cons hl
    by_cases hu : u = 34
    · have e : dbl (u :: m) = 34 :: 34 :: dbl m := by rw [dbl, if_pos hu]
      rw [e] at hd
      rw [hd] at hc
      injection hc with hc hc2
      have hb : byS S j = 34 := by rw [byS_at hl, ← hc]; rfl
      have hl1 : j + 1 < S.length := by
        rcases Nat.lt_or_ge (j + 1) S.length with q | q
        · exact q
        · rw [List.drop_eq_nil_iff.2 q] at hc2; cases hc2
      have hd1 := List.drop_eq_getElem_cons hl1
      rw [← hc2] at hd1
      injection hd1 with hd1 hd2
      have hb1 : byS S (j + 1) = 34 := by rw [byS_at hl1, ← hd1]; rfl
      rw [qtP, dif_pos hl, if_pos hb, if_pos ⟨hl1, hb1⟩, qt_all m (j + 2) (said ++ [34]) hd2.symm (fun x hx => hn x (List.mem_cons_of_mem _ hx)), hu, List.append_assoc]
      rfl
    · have e : dbl (u :: m) = u :: dbl m := by rw [dbl, if_neg hu]
      rw [e] at hd
      rw [hd] at hc
      injection hc with hc hc2
      have hb : ¬ byS S j = 34 := fun c => hu (by rw [byS_at hl, ← hc] at c; exact u8_of c (by decide))
      have hq : nqN (byS S j) = false := by rw [byS_at hl, ← hc]; exact hn u List.mem_cons_self
      rw [qtP, dif_pos hl, if_neg hb, if_neg (by rw [hq]; decide), qt_all m (j + 1) _ hc2.symm (fun x hx => hn x (List.mem_cons_of_mem _ hx)), ← hc, List.append_assoc]
      rfl
theorem one_string (m : List UInt8) (hn : ∀ u ∈ m, nqN u.toNat = false) : (allP (34 :: (dbl m ++ [34]))).1 = [tokAt (34 :: (dbl m ++ [34])) 9 (bts m) 0 (34 :: (dbl m ++ [34])).length] ∧ (allP (34 :: (dbl m ++ [34]))).2 = 0 := by
  have hb : byS (34 :: (dbl m ++ [34])) 0 = 34 := rfl
  refine all_one (self := false) (by simp) (by rw [hb]; decide) ?_
  unfold lookP
  rw [hb, if_neg (by decide), if_neg (by decide), if_pos rfl]
  have := qt_all (S := 34 :: (dbl m ++ [34])) m 1 [] rfl hn
  rw [List.nil_append] at this
  exact this

theorem qtP_kind {S : List UInt8} (j : Nat) (l : List UInt8) {k e : Nat} {t : ByteArray} {self : Bool} (h : qtP S j l = .tok k t e self) : k = 9 := by
  rw [qtP] at h
  split at h
  · split at h
    · split at h
      · exact qtP_kind (j + 2) _ h
      · injection h with h; exact h.symm
    · split at h
      · cases h
      · exact qtP_kind (j + 1) _ h
  · cases h
termination_by S.length - j
decreasing_by all_goals omega
theorem barP_kind {S : List UInt8} (i j : Nat) {k e : Nat} {t : ByteArray} {self : Bool} (h : barP S i j = .tok k t e self) : k = 3 := by
  rw [barP] at h
  split at h
  · split at h
    · injection h with h; exact h.symm
    · split at h
      · cases h
      · exact barP_kind i (j + 1) h
  · cases h
termination_by S.length - j
decreasing_by all_goals omega
/-- how long a token's text is -/
def LenOk (i k e : Nat) (t : ByteArray) : Prop := (1 ≤ k ∧ k ≤ 9) ∧ (k = 1 ∨ k = 2 ∨ k = 5 ∨ k = 6 → t.size = e - i) ∧ (k = 7 ∨ k = 8 → t.size + 2 = e - i)
theorem bts_size (l : List UInt8) : (bts l).size = l.length := List.size_toArray
theorem lookP_size {S : List UInt8} {i k e : Nat} {t : ByteArray} {self : Bool} (hi : i < S.length) (h : lookP S i = .tok k t e self) : LenOk i k e t := by
  have nue : ∀ kk ee, i ≤ ee → ee ≤ S.length → (kk = 5 ∨ kk = 6) → nueP S i kk ee = .tok k t e self → LenOk i k e t := fun kk ee h1 h2 h3 hh => by
    unfold nueP at hh
    split at hh
    · cases hh
    · injection hh with g1 g2 g3 g4
      subst g1; subst g2; subst g3
      have : (bts (subS S i ee)).size = ee - i := by rw [bts_size, subS_len h1 h2]
      exact ⟨by omega, fun _ => this, fun c => by omega⟩
  have shq : ∀ kk ee, i + 2 ≤ ee → ee ≤ S.length → (kk = 7 ∨ kk = 8) → shqP S i kk ee = .tok k t e self → LenOk i k e t := fun kk ee h1 h2 h3 hh => by
    have key : Seen.tok kk (bts (subS S (i + 2) ee)) ee false = .tok k t e self → LenOk i k e t := fun hh => by
      injection hh with g1 g2 g3 g4
      subst g1; subst g2; subst g3
      have : (bts (subS S (i + 2) ee)).size = ee - (i + 2) := by rw [bts_size, subS_len h1 h2]
      exact ⟨by omega, fun c => by omega, fun _ => by omega⟩
    unfold shqP at hh
    split at hh
    · split at hh
      · cases hh
      · exact key hh
    · split at hh
      · cases hh
      · exact key hh
  unfold lookP at h
  split at h
  · injection h with g1 g2 g3 g4
    subst g1; subst g2; subst g3
    exact ⟨by omega, fun _ => by show 1 = _; omega, fun c => by omega⟩
  split at h
  · injection h with g1 g2 g3 g4
    subst g1; subst g2; subst g3
    exact ⟨by omega, fun _ => by show 1 = _; omega, fun c => by omega⟩
  split at h
  · have := qtP_kind _ _ h
    subst this
    exact ⟨by omega, fun c => by omega, fun c => by omega⟩
  split at h
  · have := barP_kind _ _ h
    subst this
    exact ⟨by omega, fun c => by omega, fun c => by omega⟩
  split at h
  · unfold keyP at h
    split at h
    · cases h
    · split at h
      · cases h
      · injection h with g1 g2 g3 g4
        subst g1
        exact ⟨by omega, fun c => by omega, fun c => by omega⟩
  split at h
  · unfold shpP at h
    split at h
    · cases h
    · rename_i hne
      split at h
      · have hr := runE_spec hxN S (i + 2) (by omega)
        exact shq 7 _ hr.1 hr.2.1 (Or.inl rfl) h
      · split at h
        · have hr := runE_spec biN S (i + 2) (by omega)
          exact shq 8 _ hr.1 hr.2.1 (Or.inr rfl) h
        · cases h
  split at h
  · have hr := runE_spec dgN S i (by omega)
    unfold numP at h
    split at h
    · cases h
    · unfold nubP at h
      split at h
      · rename_i hdot
        split at h
        · cases h
        · split at h
          · cases h
          · have hr2 := runE_spec dgN S (runE dgN S i + 1) (by omega)
            exact nue 6 _ (by omega) hr2.2.1 (Or.inr rfl) h
      · exact nue 5 _ hr.1 hr.2.1 (Or.inl rfl) h
  split at h
  · injection h with g1 g2 g3 g4
    subst g1
    exact ⟨by omega, fun c => by omega, fun c => by omega⟩
  · cases h
/-- the first token of a text -/
theorem first_tok {S : List UInt8} {T : Tok} {L : List Tok} (h : (allP S).1 = T :: L) : ∃ i k e t, i < e ∧ e ≤ S.length ∧ T = tokAt S k t i e ∧ LenOk i k e t := by
  obtain ⟨z1, _, _⟩ := allF_zero S
  have eg := allF_gap (S := S) (k := 0) (Nat.zero_le _)
  obtain ⟨a1, a2, a3, _⟩ := gapE_spec S 3 0 (Or.inl rfl) (Nat.zero_le _)
  rw [← z1, ← eg] at h
  by_cases hl : gapE S 3 0 < S.length
  · have hs := look_step hl (a3 hl)
    rcases hX : lookP S (gapE S 3 0) with ⟨kk, t, e, self⟩ | code | x
    · have hz := lookP_size hl hX
      rw [hX] at hs
      rw [allF_tok hs] at h
      injection h with h1 _
      exact ⟨_, kk, e, t, hs.1, hs.2.1, h1.symm, hz⟩
    · rw [hX] at hs
      rw [(allF_half hs).2] at h
      cases h
    · rw [hX] at hs
      rw [allF_bad hs] at h
      cases h
  · have e : gapE S 3 0 = S.length := by omega
    rw [e, allF_end] at h
    cases h
end Go.Proofs.YtpfmamimhhnbiaaGreatDoor

namespace Go.Proofs.YtpfmamimhhnbiaaGreatDoor
open Go.RowKit
set_option linter.unusedVariables false
set_option linter.unusedSimpArgs false

theorem results_tt {fn : Func} {p u : Tmp} (h : fn.results = #[.tmp p, .tmp u]) (tmps : Array Value) (P : Program) (w : World) :
    (results fn tmps).run P w = .ok (.tuple #[tmps.getD p undef, tmps.getD u undef]) w := by
  simp only [results, h]
  simp
def barS (s : ByteArray) : ByteArray := ⟨#[124]⟩ ++ s ++ ⟨#[124]⟩
/-- what Symbol answers -/
def symA (p n : Bool) (s : ByteArray) : Value := if p then .tuple #[.string s, .int .i64 0] else if n then .tuple #[.string ⟨#[]⟩, .int .i64 122] else .tuple #[.string (barS s), .int .i64 0]

set_option maxHeartbeats 2000000 in
set_option maxRecDepth 100000 in
theorem symbol_is (s : ByteArray) (hs : s.size ≤ 140737488355328) (p n : Bool) (hp : p = true ↔ isPl s) (hn : n = true ↔ hasB nbN s) (w : World) :
    Calls Tryz.prog 48 #[.string s] w fun e w' => e = .returned (symA p n s) ∧ Below w.heap.size w w' := by
  have H1 := hideT (plain_is s hs p hp w)
  have H2 := hideT (fun w' => clone_is s hs w')
  have H3 := hideT (fun w' => containsFunc_bar s hs n hn w')
  clear hp hn
  cases p
  · cases n
    · go_enter Tryz.func48, Tryz.ntmps48
      go_wp2_with fail
      refine H1.out.mono ?_
      rintro e w1 ⟨rfl, b1⟩
      go_wp2_with fail
      refine (H3.out _).mono ?_
      rintro e w2 ⟨rfl, b2⟩
      go_wp2
      refine bodyPost_ret (v := symA false false s) (by rw [results_tt rfl]; rfl) rfl ?_
      exact ⟨rfl, b1.trans (b2.mono b1.size)⟩
    · go_enter Tryz.func48, Tryz.ntmps48
      go_wp2_with fail
      refine H1.out.mono ?_
      rintro e w1 ⟨rfl, b1⟩
      go_wp2_with fail
      refine (H3.out _).mono ?_
      rintro e w2 ⟨rfl, b2⟩
      go_wp2
      refine bodyPost_ret (v := symA false true s) (by rw [results_tt rfl]; rfl) rfl ?_
      exact ⟨rfl, b1.trans (b2.mono b1.size)⟩
  · go_enter Tryz.func48, Tryz.ntmps48
    go_wp2_with fail
    refine H1.out.mono ?_
    rintro e w1 ⟨rfl, b1⟩
    go_wp2_with fail
    refine (H2.out _).mono ?_
    rintro e w2 ⟨rfl, b2⟩
    go_wp2
    refine bodyPost_ret (v := symA true n s) (by rw [results_tt rfl]; rfl) rfl ?_
    exact ⟨rfl, b1.trans (b2.mono b1.size)⟩

set_option maxHeartbeats 2000000 in
set_option maxRecDepth 100000 in
theorem rSymbol_is (s : ByteArray) (hs : s.size ≤ 140737488355328) (p n : Bool) (hp : p = true ↔ isPl s) (hn : n = true ↔ hasB nbN s) (w : World) :
    Calls Tryz.prog 42 #[.string s] w fun e w' => e = .returned (symA p n s) ∧ w' = w := by
  have H1 := hideT (rPlain_is s hs p hp w)
  have HN := hideT hn
  clear hp hn
  cases p
  · go_enter Tryz.func42, Tryz.ntmps42
    go_wp2_with fail
    refine H1.out.mono ?_
    rintro e w1 ⟨rfl, rfl⟩
    go_wp2
    go_loop [4] (fun i => ∃ k : Nat, k ≤ s.size ∧ i = .int .i64 k ∧ ∀ j, j < k → nbN (byt s j) = false) (fun i => s.size - (intOf i).toNat)
    case atStart => exact ⟨0, Nat.zero_le _, rfl, fun j hj => by omega⟩
    case round =>
      obtain ⟨k, hk, rfl, hj⟩ := hrel
      have HJ := hideT hj
      clear hj
      by_cases hlt : k < s.size
      · have hki : ((k : Int) < (s.size : Int)) := by omega
        have H2 := hideT (fun w' => quotable_is (byt s k) w')
        rw [quN_not] at H2
        have hdef : nbN (byt s k) = (nqN (byt s k) || decide (byt s k = 124) || decide (byt s k = 92)) := rfl
        cases hq : nqN (byt s k)
        · rw [hq, byt_of hlt] at H2
          rw [hq] at hdef
          by_cases h1 : byt s k = 124
          · have hx : (((s[k]'hlt).toNat : Int) == 124) = true := by rw [← byt_of hlt, h1]; rfl
            have hv : n = true := HN.out.2 ⟨k, hlt, by rw [hdef]; simp [h1]⟩
            clear hdef hq h1
            go_wp2_with fail
            refine (H2.out _).mono ?_
            rintro e w1 ⟨rfl, rfl⟩
            go_wp2
            refine bodyPost_ret (v := symA false true s) (by rw [results_tt rfl]; rfl) rfl ?_
            rw [hv]
            exact ⟨rfl, rfl⟩
          · have hx : (((s[k]'hlt).toNat : Int) == 124) = false := by rw [← byt_of hlt, beq_eq_false_iff_ne]; omega
            by_cases h2 : byt s k = 92
            · have hy : (((s[k]'hlt).toNat : Int) == 92) = true := by rw [← byt_of hlt, h2]; rfl
              have hv : n = true := HN.out.2 ⟨k, hlt, by rw [hdef]; simp [h2]⟩
              clear hdef hq h1 h2
              go_wp2_with fail
              refine (H2.out _).mono ?_
              rintro e w1 ⟨rfl, rfl⟩
              go_wp2
              refine bodyPost_ret (v := symA false true s) (by rw [results_tt rfl]; rfl) rfl ?_
              rw [hv]
              exact ⟨rfl, rfl⟩
            · have hy : (((s[k]'hlt).toNat : Int) == 92) = false := by rw [← byt_of hlt, beq_eq_false_iff_ne]; omega
              have HY := hideT (show nbN (byt s k) = false by rw [hdef]; simp [h1, h2])
              clear hdef hq h1 h2
              go_wp2_with fail
              refine (H2.out _).mono ?_
              rintro e w1 ⟨rfl, rfl⟩
              go_wp2
              go_round
              case rel => exact ⟨k + 1, by omega, by go_num, fun j hj => by
                by_cases e : j = k
                · rw [e]; exact HY.out
                · exact HJ.out j (by omega)⟩
              case measure => simp [intOf]; omega
        · rw [hq, byt_of hlt] at H2
          have hv : n = true := HN.out.2 ⟨k, hlt, by rw [hdef, hq]; rfl⟩
          clear hdef hq
          go_wp2_with fail
          refine (H2.out _).mono ?_
          rintro e w1 ⟨rfl, rfl⟩
          go_wp2
          refine bodyPost_ret (v := symA false true s) (by rw [results_tt rfl]; rfl) rfl ?_
          rw [hv]
          exact ⟨rfl, rfl⟩
      · have hki : ¬ ((k : Int) < (s.size : Int)) := by omega
        have hv : n = false := by
          cases hc : n with
          | false => rfl
          | true =>
            obtain ⟨j, h1, h2⟩ := HN.out.1 hc
            rw [HJ.out j (by omega)] at h2
            exact absurd h2 (by decide)
        go_wp2
        refine bodyPost_ret (v := symA false false s) (by rw [results_tt rfl]; rfl) rfl ?_
        try rw [hv]
        exact ⟨rfl, rfl⟩
  · go_enter Tryz.func42, Tryz.ntmps42
    go_wp2_with fail
    refine H1.out.mono ?_
    rintro e w1 ⟨rfl, rfl⟩
    go_wp2
    refine bodyPost_ret (v := symA true n s) (by rw [results_tt rfl]; rfl) rfl ?_
    exact ⟨rfl, rfl⟩
/-- one of the language's own words -/
def resB (s : ByteArray) : Bool := (s.toList == [33]) || (s.toList == [95]) || (s.toList == [97, 115]) || (s.toList == [66, 73, 78, 65, 82, 89]) || (s.toList == [68, 69, 67, 73, 77, 65, 76]) || (s.toList == [101, 120, 105, 115, 116, 115]) || (s.toList == [102, 111, 114, 97, 108, 108]) || (s.toList == [72, 69, 88, 65, 68, 69, 67, 73, 77, 65, 76]) || (s.toList == [108, 101, 116]) || (s.toList == [109, 97, 116, 99, 104]) || (s.toList == [78, 85, 77, 69, 82, 65, 76]) || (s.toList == [112, 97, 114]) || (s.toList == [83, 84, 82, 73, 78, 71])
end Go.Proofs.YtpfmamimhhnbiaaGreatDoor

namespace Go.Proofs.YtpfmamimhhnbiaaGreatDoor
open Go.RowKit
set_option linter.unusedVariables false
set_option linter.unusedSimpArgs false

def hdk (k : Int) : ByteArray := if k = 7 then ⟨#[35, 120]⟩ else if k = 8 then ⟨#[35, 98]⟩ else ⟨#[]⟩
def lsB (s : ByteArray) : List UInt8 := s.data.toList
theorem lsB_len (s : ByteArray) : (lsB s).length = s.size := Array.length_toList
theorem lsB_app (a b : ByteArray) : lsB (a ++ b) = lsB a ++ lsB b := by
  unfold lsB
  rw [ByteArray.data_append, Array.toList_append]
theorem byS_app1 {a b : List UInt8} {k : Nat} (h : k < a.length) : byS (a ++ b) k = byS a k := by
  unfold byS
  rw [List.getD_eq_getElem?_getD, List.getD_eq_getElem?_getD, List.getElem?_append_left h]
theorem byS_app2 {a b : List UInt8} {k : Nat} (h : a.length ≤ k) : byS (a ++ b) k = byS b (k - a.length) := by
  unfold byS
  rw [List.getD_eq_getElem?_getD, List.getD_eq_getElem?_getD, List.getElem?_append_right h]
theorem byS_ls {s : ByteArray} {k : Nat} (h : k < s.size) : byS (lsB s) k = byt s k := byS_byt h
/-- a text is read as one token of this kind and this text -/
def OkT (s : ByteArray) (k : Int) (t : ByteArray) : Prop := ∃ T, (allP (lsB s)).1 = [T] ∧ (allP (lsB s)).2 = 0 ∧ (T.k : Int) = k ∧ T.t = t
/-- and it is all of the text -/
def OneT (s : ByteArray) (k : Int) (t : ByteArray) : Prop := ∃ T, (allP (lsB s)).1 = [T] ∧ (allP (lsB s)).2 = 0 ∧ (T.k : Int) = k ∧ T.t = t ∧ T.b = 0 ∧ T.e = s.size
theorem OneT.ok {s : ByteArray} {k : Int} {t : ByteArray} (h : OneT s k t) : OkT s k t := by
  obtain ⟨T, h1, h2, h3, h4, _⟩ := h
  exact ⟨T, h1, h2, h3, h4⟩
def quoS (t : ByteArray) : ByteArray := ⟨(34 :: (dbl (lsB t) ++ [34])).toArray⟩
def empS : ByteArray := ⟨#[]⟩
/-- what Print answers -/
structure PrR (k : Int) (t s : ByteArray) (c : Int) : Prop where
  sym : k = 3 → (isPl t → s = t ∧ c = 0) ∧ (¬ isPl t → hasB nbN t → s = empS ∧ c = 122) ∧ (¬ isPl t → ¬ hasB nbN t → s = barS t ∧ c = 0)
  key : k = 4 → (isPl t → s = ⟨#[58]⟩ ++ t ∧ c = 0) ∧ (¬ isPl t → s = empS ∧ c = 122)
  str : k = 9 → (hasB nqN t → s = empS ∧ c = 122) ∧ (¬ hasB nqN t → s = quoS t ∧ c = 0)
  oth : k ≠ 3 → k ≠ 4 → k ≠ 9 → (OkT (hdk k ++ t) k t → s = hdk k ++ t ∧ c = 0) ∧ (¬ OkT (hdk k ++ t) k t → s = empS ∧ c = 120)
theorem PrR.uniq {k : Int} {t s s2 : ByteArray} {c c2 : Int} (h : PrR k t s c) (h2 : PrR k t s2 c2) : s = s2 ∧ c = c2 := by
  by_cases k3 : k = 3
  · obtain ⟨a1, a2, a3⟩ := h.sym k3
    obtain ⟨b1, b2, b3⟩ := h2.sym k3
    by_cases hp : isPl t
    · exact ⟨(a1 hp).1.trans (b1 hp).1.symm, (a1 hp).2.trans (b1 hp).2.symm⟩
    · by_cases hn : hasB nbN t
      · exact ⟨(a2 hp hn).1.trans (b2 hp hn).1.symm, (a2 hp hn).2.trans (b2 hp hn).2.symm⟩
      · exact ⟨(a3 hp hn).1.trans (b3 hp hn).1.symm, (a3 hp hn).2.trans (b3 hp hn).2.symm⟩
  by_cases k4 : k = 4
  · obtain ⟨a1, a2⟩ := h.key k4
    obtain ⟨b1, b2⟩ := h2.key k4
    by_cases hp : isPl t
    · exact ⟨(a1 hp).1.trans (b1 hp).1.symm, (a1 hp).2.trans (b1 hp).2.symm⟩
    · exact ⟨(a2 hp).1.trans (b2 hp).1.symm, (a2 hp).2.trans (b2 hp).2.symm⟩
  by_cases k9 : k = 9
  · obtain ⟨a1, a2⟩ := h.str k9
    obtain ⟨b1, b2⟩ := h2.str k9
    by_cases hp : hasB nqN t
    · exact ⟨(a1 hp).1.trans (b1 hp).1.symm, (a1 hp).2.trans (b1 hp).2.symm⟩
    · exact ⟨(a2 hp).1.trans (b2 hp).1.symm, (a2 hp).2.trans (b2 hp).2.symm⟩
  obtain ⟨a1, a2⟩ := h.oth k3 k4 k9
  obtain ⟨b1, b2⟩ := h2.oth k3 k4 k9
  by_cases hp : OkT (hdk k ++ t) k t
  · exact ⟨(a1 hp).1.trans (b1 hp).1.symm, (a1 hp).2.trans (b1 hp).2.symm⟩
  · exact ⟨(a2 hp).1.trans (b2 hp).1.symm, (a2 hp).2.trans (b2 hp).2.symm⟩
theorem bts_ls (t : ByteArray) : bts (lsB t) = t := rfl
theorem one_plain {t : ByteArray} (hp : isPl t) : OneT t 3 t := by
  obtain ⟨h1, h2, h3⟩ := hp
  have hl := lsB_len t
  obtain ⟨a1, a2⟩ := one_symbol (S := lsB t) (by omega) (by rw [byS_ls h1]; exact h2) (fun k hk => by rw [byS_ls (by omega)]; exact h3 k (by omega))
  exact ⟨_, a1, a2, rfl, rfl, rfl, by show ((lsB t).length : Int) = _; rw [hl]⟩
theorem one_bars {t : ByteArray} (hn : ¬ hasB nbN t) : OneT (barS t) 3 t := by
  have hl := lsB_len t
  have e : lsB (barS t) = 124 :: (lsB t ++ [124]) := by
    unfold barS
    rw [lsB_app, lsB_app]
    rfl
  have el : (lsB (barS t)).length = t.size + 2 := by rw [e]; simp only [List.length_cons, List.length_append, List.length_nil]; omega
  have hz : (barS t).size = t.size + 2 := by rw [← lsB_len, el]
  have hin : ∀ k, 1 ≤ k → k < t.size + 1 → byS (lsB (barS t)) k = byt t (k - 1) := fun k h1 h2 => by
    rw [e, show (124 :: (lsB t ++ [124]) : List UInt8) = [124] ++ (lsB t ++ [124]) from rfl, byS_app2 (by simp; omega), byS_app1 (by simp only [List.length_cons, List.length_nil]; omega), byS_ls (by simp only [List.length_cons, List.length_nil]; omega)]
    rfl
  have hlast : byS (lsB (barS t)) (t.size + 1) = 124 := by
    rw [e, show (124 :: (lsB t ++ [124]) : List UInt8) = ([124] ++ lsB t) ++ [124] from rfl, byS_app2 (by simp only [List.length_append, List.length_cons, List.length_nil]; omega)]
    have : t.size + 1 - ([124] ++ lsB t).length = 0 := by simp only [List.length_append, List.length_cons, List.length_nil]; omega
    rw [this]
    rfl
  obtain ⟨a1, a2⟩ := one_barred (S := lsB (barS t)) (by omega) (by rw [e]; rfl) (fun k h1 h2 => by
    rw [hin k h1 (by omega)]
    rcases hb : nbN (byt t (k - 1)) with _ | _
    · rfl
    · exact absurd ⟨k - 1, by omega, hb⟩ hn) (by rw [el]; exact hlast)
  have ht : bts (subS (lsB (barS t)) 1 ((lsB (barS t)).length - 1)) = t := by
    rw [el, e]
    unfold subS
    have : (124 :: (lsB t ++ [124]) : List UInt8).drop 1 = lsB t ++ [124] := rfl
    rw [this, show t.size + 2 - 1 - 1 = (lsB t).length by omega, List.take_left']
    · rfl
    · rfl
  exact ⟨_, a1, a2, rfl, ht, rfl, by show ((lsB (barS t)).length : Int) = _; rw [el, hz]⟩
theorem one_key {t : ByteArray} (hp : isPl t) : OneT (⟨#[58]⟩ ++ t) 4 t := by
  obtain ⟨h1, h2, h3⟩ := hp
  have hl := lsB_len t
  have e : lsB (⟨#[58]⟩ ++ t) = 58 :: lsB t := by rw [lsB_app]; rfl
  have el : (lsB (⟨#[58]⟩ ++ t)).length = t.size + 1 := by rw [e]; simp only [List.length_cons]; omega
  have hz : ((⟨#[58]⟩ : ByteArray) ++ t).size = t.size + 1 := by rw [← lsB_len, el]
  have hin : ∀ k, 1 ≤ k → k < t.size + 1 → byS (lsB (⟨#[58]⟩ ++ t)) k = byt t (k - 1) := fun k h1 h2 => by
    rw [e, show (58 :: lsB t : List UInt8) = [58] ++ lsB t from rfl, byS_app2 (by simp; omega), byS_ls (by simp only [List.length_cons, List.length_nil]; omega)]
    rfl
  obtain ⟨a1, a2⟩ := one_keyword (S := lsB (⟨#[58]⟩ ++ t)) (by omega) (by rw [e]; rfl) (by rw [hin 1 (by omega) (by omega)]; exact h2) (fun k q1 q2 => by rw [hin k q1 (by omega)]; exact h3 (k - 1) (by omega))
  exact ⟨_, a1, a2, rfl, by show bts ((lsB (⟨#[58]⟩ ++ t)).drop 1) = t; rw [e]; rfl, rfl, by show ((lsB (⟨#[58]⟩ ++ t)).length : Int) = _; rw [el, hz]⟩
theorem one_quo {t : ByteArray} (hn : ¬ hasB nqN t) : OneT (quoS t) 9 t := by
  have e : lsB (quoS t) = 34 :: (dbl (lsB t) ++ [34]) := rfl
  obtain ⟨a1, a2⟩ := one_string (lsB t) (fun u hu => by
    obtain ⟨k, hk, hg⟩ := List.getElem_of_mem hu
    rcases hb : nqN u.toNat with _ | _
    · rfl
    · exfalso
      have hk2 : k < t.size := by rw [← lsB_len]; exact hk
      exact hn ⟨k, hk2, by rw [← byS_ls hk2, byS_at hk, hg]; exact hb⟩)
  exact ⟨_, a1, a2, rfl, rfl, rfl, by show ((34 :: (dbl (lsB t) ++ [34]) : List UInt8).length : Int) = _; rw [← e, lsB_len]⟩
theorem ok_kind {s t : ByteArray} {k : Int} (h : OkT s k t) : 1 ≤ k ∧ k ≤ 9 := by
  obtain ⟨T, h1, _, h3, _⟩ := h
  obtain ⟨i, k', e, t', _, _, rfl, hz⟩ := first_tok h1
  have h3' : (k' : Int) = k := h3
  have := hz.1
  omega
theorem ok_one {t : ByteArray} {k : Int} (h : OkT (hdk k ++ t) k t) (k3 : k ≠ 3) (k4 : k ≠ 4) (k9 : k ≠ 9) : OneT (hdk k ++ t) k t := by
  have hk := ok_kind h
  obtain ⟨T, h1, h2, h3, h4⟩ := h
  obtain ⟨i, k', e, t', q1, q2, rfl, hz⟩ := first_tok h1
  have h3' : (k' : Int) = k := h3
  have h4' : t' = t := h4
  have hl : (lsB (hdk k ++ t)).length = (hdk k).size + t.size := by rw [lsB_app, List.length_append, lsB_len, lsB_len]
  have hs : (hdk k ++ t).size = (hdk k).size + t.size := by rw [← lsB_len, hl]
  have key : i = 0 ∧ e = (lsB (hdk k ++ t)).length := by
    obtain ⟨_, z1, z2⟩ := hz
    by_cases h78 : k = 7 ∨ k = 8
    · have hd : (hdk k).size = 2 := by
        unfold hdk
        rcases h78 with c | c
        · rw [if_pos c]; rfl
        · rw [if_neg (by omega), if_pos c]; rfl
      have := z2 (by omega)
      rw [h4'] at this
      omega
    · have hd : (hdk k).size = 0 := by
        unfold hdk
        rw [if_neg (by omega), if_neg (by omega)]; rfl
      have := z1 (by omega)
      rw [h4'] at this
      omega
  exact ⟨_, h1, h2, h3, h4, by show (i : Int) = 0; omega, by show (e : Int) = _; rw [key.2, hl, hs]⟩
/-- what Print says is read as the token, alone -/
theorem PrR.one {k : Int} {t s : ByteArray} (h : PrR k t s 0) : OneT s k t := by
  by_cases k3 : k = 3
  · obtain ⟨a1, a2, a3⟩ := h.sym k3
    by_cases hp : isPl t
    · rw [(a1 hp).1, k3]; exact one_plain hp
    · by_cases hn : hasB nbN t
      · exact absurd (a2 hp hn).2 (by decide)
      · rw [(a3 hp hn).1, k3]; exact one_bars hn
  by_cases k4 : k = 4
  · obtain ⟨a1, a2⟩ := h.key k4
    by_cases hp : isPl t
    · rw [(a1 hp).1, k4]; exact one_key hp
    · exact absurd (a2 hp).2 (by decide)
  by_cases k9 : k = 9
  · obtain ⟨a1, a2⟩ := h.str k9
    by_cases hp : hasB nqN t
    · exact absurd (a1 hp).2 (by decide)
    · rw [(a2 hp).1, k9]; exact one_quo hp
  obtain ⟨a1, a2⟩ := h.oth k3 k4 k9
  by_cases hp : OkT (hdk k ++ t) k t
  · rw [(a1 hp).1]; exact ok_one hp k3 k4 k9
  · exact absurd (a2 hp).2 (by decide)
end Go.Proofs.YtpfmamimhhnbiaaGreatDoor
