/-
  strings.Clone, strings.ContainsFunc with mayNotBeBarred.
-/
import Derived.Test.YtpfmamimhhnbiaaDoorTK4
import Derived.Shelf.Strconv.Clone
namespace Go.Proofs.YtpfmamimhhnbiaaDoor
open Go.RowKit
set_option linter.unusedVariables false
set_option linter.unusedSimpArgs false

/-- a name that is written without bars -/
def isPl (s : ByteArray) : Prop := 0 < s.size ∧ dgN (byt s 0) = false ∧ ∀ k, k < s.size → syN (byt s k) = true
theorem ba_len (s : ByteArray) : s.toList.length = s.size := by rw [ByteArray.toList_eq, Array.length_toList]; rfl
theorem ba_some {s : ByteArray} (h0 : 0 < s.size) : s.toList.isEmpty = false := by
  cases hl : s.toList with
  | nil => have := ba_len s; rw [hl] at this; have : s.size = 0 := this.symm; omega
  | cons _ _ => rfl
theorem ba_none {s : ByteArray} (h0 : s.size = 0) : s.toList.isEmpty = true := by
  cases hl : s.toList with
  | nil => rfl
  | cons x l => have := ba_len s; rw [hl, h0] at this; simp at this

set_option maxHeartbeats 2000000 in
set_option maxRecDepth 100000 in
theorem plain_is (s : ByteArray) (hs : s.size ≤ 140737488355328) (b : Bool) (hb : b = true ↔ isPl s) (w : World) :
    Calls Tryd.prog 72 #[.string s] w fun e w' => e = .returned (.bool b) ∧ Below w.heap.size w w' := by
  have HB := hideT hb
  clear hb
  have no : (∀ p : isPl s, False) → b = false := fun h => by
    cases hc : b with
    | false => rfl
    | true => exact (h (HB.out.1 hc)).elim
  have NO := hideT no
  clear no
  go_enter Tryd.func72, Tryd.ntmps72
  go_wp2
  go_loopw [] (fun wr => ∃ pos : Nat, pos ≤ s.size ∧ wr.heap[w.heap.size]? = some (.stringIter s pos) ∧ Below w.heap.size w wr ∧ (0 < pos → dgN (byt s 0) = false) ∧ ∀ k, k < pos → syN (byt s k) = true) (fun wr => s.size - wr.iterPos w.heap.size)
  case atStart => exact ⟨0, Nat.zero_le _, World.iter_heap _ _ _, below_iter0 _ _ _, fun h => absurd h (by omega), fun k hk => absurd hk (by omega)⟩
  case round =>
    obtain ⟨pos, hps, hit, hbw, hd, hk⟩ := hrel
    have HD := hideT hd
    have HK := hideT hk
    clear hd hk
    by_cases hp : pos < s.size
    · have hnx : ∀ ty, (Instr.next (.pointer (some ⟨w.heap.size, 0, none⟩)) true ty).run Tryd.prog wr = _ := fun ty => Lib.run_next_any_at wr w.heap.size s pos ty hit hp
      have hit2 := Lib.iterAt_heap wr w.heap.size s pos (pos + wid s pos) hit
      have hbw2 := Lib.below_iterAt hbw (k := w.heap.size) (Nat.le_refl _) s (pos + wid s pos)
      have hsz := (Array.getElem?_eq_some_iff.1 hit2).1
      have hwp := wid_pos hp
      have HW := hideT (wid_in hp)
      have HC := hideT (fun h => chr_low hp h)
      have HH := hideT (fun h => (chr_high hp h).1)
      change ∀ ty, (Instr.next (.pointer (some ⟨w.heap.size, 0, none⟩)) true ty).run Tryd.prog wr = .ok (.tuple #[.bool true, .int .i64 pos, .int .i32 (chr s pos : Nat)]) (wr.iterAt w.heap.size s (pos + wid s pos)) at hnx
      generalize chr s pos = r at hnx HC HH
      have H1 := hideT (fun w' => isSymbol_is r w')
      have H2 := hideT (fun w' => isDigit_is r w')
      cases hy : syN r
      · rw [hy] at H1
        have hv : b = false := NO.out (fun h => by
          by_cases hlo : byt s pos < 128
          · have e1 := (HC.out hlo).1
            rw [e1, h.2.2 pos hp] at hy
            exact absurd hy (by decide)
          · have := h.2.2 pos hp
            rw [syN_high (by omega)] at this
            exact absurd this (by decide))
        clear hy
        go_wp2_with fail
        refine (H1.out _).mono ?_
        rintro e w1 ⟨rfl, b1⟩
        go_wp2
        go_ret
        refine ⟨?_, hbw2.trans (b1.mono hbw2.size)⟩
        rw [hv]; rfl
      · rw [hy] at H1
        have hlo : byt s pos < 128 := by
          by_cases c : byt s pos < 128
          · exact c
          · rw [syN_high (HH.out (by omega))] at hy
            exact absurd hy (by decide)
        obtain ⟨er, ew⟩ := HC.out hlo
        rw [ew] at hnx hit2 hbw2 hsz
        have hns : pos + 1 ≤ s.size := by omega
        by_cases h0 : pos = 0
        · subst h0
          cases hg : dgN r
          · rw [hg] at H2
            have hg0 : dgN (byt s 0) = false := by rw [← er]; exact hg
            have hy0 : syN (byt s 0) = true := by rw [← er]; exact hy
            clear hg hy er ew hwp
            go_wp2_with fail
            refine (H1.out _).mono ?_
            rintro e w1 ⟨rfl, b1⟩
            go_wp2_with fail
            refine (H2.out _).mono ?_
            rintro e w2 ⟨rfl, rfl⟩
            have hit3 : w2.heap[w.heap.size]? = some (.stringIter s (0 + 1)) := by rw [b1.block _ hsz]; exact hit2
            go_wp2
            go_roundw
            case rel => exact ⟨0 + 1, by omega, hit3, hbw2.trans (b1.mono hbw2.size), fun _ => hg0, fun k hk => by
              obtain rfl : k = 0 := by omega
              exact hy0⟩
            case measure => simp only [World.iterPos, hit3, hit]; omega
          · rw [hg] at H2
            have hv : b = false := NO.out (fun h => by
              have := h.2.1
              rw [← er, hg] at this
              exact absurd this (by decide))
            clear hg hy er ew hwp
            go_wp2_with fail
            refine (H1.out _).mono ?_
            rintro e w1 ⟨rfl, b1⟩
            go_wp2_with fail
            refine (H2.out _).mono ?_
            rintro e w2 ⟨rfl, rfl⟩
            go_wp2
            go_ret
            refine ⟨?_, hbw2.trans (b1.mono hbw2.size)⟩
            rw [hv]; rfl
        · have hx : ((pos : Int) == 0) = false := by rw [beq_eq_false_iff_ne]; omega
          have hyp : syN (byt s pos) = true := by rw [← er]; exact hy
          clear hy er ew hwp
          go_wp2_with fail
          refine (H1.out _).mono ?_
          rintro e w1 ⟨rfl, b1⟩
          have hit3 : w1.heap[w.heap.size]? = some (.stringIter s (pos + 1)) := by rw [b1.block _ hsz]; exact hit2
          go_wp2
          go_roundw
          case rel => exact ⟨pos + 1, by omega, hit3, hbw2.trans (b1.mono hbw2.size), fun _ => HD.out (by omega), fun k hk => by
            by_cases e : k = pos
            · rw [e]; exact hyp
            · exact HK.out k (by omega)⟩
          case measure => simp only [World.iterPos, hit3, hit]; omega
    · have hnx : ∀ ty, (Instr.next (.pointer (some ⟨w.heap.size, 0, none⟩)) true ty).run Tryd.prog wr = _ := fun ty => Lib.run_next_end_at wr w.heap.size s pos ty hit hp
      by_cases h0 : s.size = 0
      · have hv : b = false := NO.out (fun h => by have := h.1; omega)
        have hx := ba_none h0
        go_wp2
        go_ret
        refine ⟨?_, hbw⟩
        rw [hv]; rfl
      · have hv : b = true := HB.out.2 ⟨by omega, HD.out (by omega), fun k hk => HK.out k (by omega)⟩
        have hx := ba_some (s := s) (by omega)
        go_wp2
        go_ret
        refine ⟨?_, hbw⟩
        rw [hv]; rfl

end Go.Proofs.YtpfmamimhhnbiaaDoor

namespace Go.Proofs
open Go.Shelf
def Tryd.laysM316_ren : Go.Shelf.Ren := ⟨fun | 316 => 102 | n => n, fun | 9 => 9 | 3 => 3 | 4 => 4 | 37 => 51 | 0 => 0 | 127 => 78 | 5 => 5 | n => n, fun | n => n⟩
theorem Tryd.laysM316 : Go.Proofs.LaysM.n316 Tryd.prog Tryd.laysM316_ren := {
  mixed := by kernel_rfl
  f316 := Tryd.func102.trans (congrArg some (by kernel_rfl))
  t0 := Tryd.underlying0
  a0 := Tryd.isAgg0
  z0 := Tryd.sizeOf0
  v0 := Tryd.zeroValue0
  t3 := Tryd.underlying3
  a3 := Tryd.isAgg3
  z3 := Tryd.sizeOf3
  v3 := Tryd.zeroValue3
  t4 := Tryd.underlying4
  a4 := Tryd.isAgg4
  z4 := Tryd.sizeOf4
  v4 := Tryd.zeroValue4
  t9 := Tryd.underlying9
  a9 := Tryd.isAgg9
  z9 := Tryd.sizeOf9
  v9 := Tryd.zeroValue9
  t37 := Tryd.underlying51
  a37 := Tryd.isAgg51
  z37 := Tryd.sizeOf51
  v37 := Tryd.zeroValue51
  t127 := Tryd.underlying78
  a127 := Tryd.isAgg78
  z127 := Tryd.sizeOf78
  v127 := Tryd.zeroValue78
  t5 := Tryd.underlying5
  a5 := Tryd.isAgg5
  z5 := Tryd.sizeOf5
  v5 := Tryd.zeroValue5
  i0 := by kernel_rfl
  i3 := by kernel_rfl
  i4 := by kernel_rfl
  i5 := by kernel_rfl
  i9 := by kernel_rfl
  i37 := by kernel_rfl
  i127 := by kernel_rfl }
end Go.Proofs
namespace Go.Proofs.YtpfmamimhhnbiaaDoor
open Go.RowKit
set_option linter.unusedVariables false
set_option linter.unusedSimpArgs false
theorem liteClone_is (s : ByteArray) (hs : s.size ≤ 140737488355328) (w : World) : Calls Tryd.prog 102 #[.string s] w fun e w' => e = .returned (.string s) ∧ Below w.heap.size w w' :=
  Any.stringslite_Clone Tryd.laysM316 s w (by omega)
theorem clone_is (s : ByteArray) (hs : s.size ≤ 140737488355328) (w : World) : Calls Tryd.prog 93 #[.string s] w fun e w' => e = .returned (.string s) ∧ Below w.heap.size w w' := by
  have H := hideT (liteClone_is s hs w)
  go_enter Tryd.func93, Tryd.ntmps93
  go_wp2_with fail
  refine H.out.mono ?_
  rintro e w1 ⟨rfl, b1⟩
  go_wp2
  go_ret
  exact ⟨rfl, b1⟩

/-- a text has a byte that a question of characters holds of -/
def hasB (f : Nat → Bool) (s : ByteArray) : Prop := ∃ k, k < s.size ∧ f (byt s k) = true
set_option maxHeartbeats 2000000 in
set_option maxRecDepth 100000 in
theorem indexFunc_bar (s : ByteArray) (hs : s.size ≤ 140737488355328) (b : Bool) (hb : b = true ↔ hasB nbN s) (w : World) :
    Calls Tryd.prog 112 #[.string s, .func (.func 88) #[] #[], .bool true] w fun e w' => (∃ j : Int, e = .returned (.int .i64 j) ∧ decide (j ≥ 0) = b) ∧ Below w.heap.size w w' := by
  have HB := hideT hb
  clear hb
  go_enter Tryd.func112, Tryd.ntmps112
  go_wp2
  go_loopw [] (fun wr => ∃ pos : Nat, pos ≤ s.size ∧ wr.heap[w.heap.size]? = some (.stringIter s pos) ∧ Below w.heap.size w wr ∧ ∀ k, k < pos → nbN (byt s k) = false) (fun wr => s.size - wr.iterPos w.heap.size)
  case atStart => exact ⟨0, Nat.zero_le _, World.iter_heap _ _ _, below_iter0 _ _ _, fun k hk => absurd hk (by omega)⟩
  case round =>
    obtain ⟨pos, hps, hit, hbw, hk⟩ := hrel
    have HK := hideT hk
    clear hk
    by_cases hp : pos < s.size
    · have hnx : ∀ ty, (Instr.next (.pointer (some ⟨w.heap.size, 0, none⟩)) true ty).run Tryd.prog wr = _ := fun ty => Lib.run_next_any_at wr w.heap.size s pos ty hit hp
      have hit2 := Lib.iterAt_heap wr w.heap.size s pos (pos + wid s pos) hit
      have hbw2 := Lib.below_iterAt hbw (k := w.heap.size) (Nat.le_refl _) s (pos + wid s pos)
      have hwp := wid_pos hp
      have HW := hideT (wid_in hp)
      have HC := hideT (fun h => chr_low hp h)
      have HH := hideT (fun h => (chr_high hp h).1)
      change ∀ ty, (Instr.next (.pointer (some ⟨w.heap.size, 0, none⟩)) true ty).run Tryd.prog wr = .ok (.tuple #[.bool true, .int .i64 pos, .int .i32 (chr s pos : Nat)]) (wr.iterAt w.heap.size s (pos + wid s pos)) at hnx
      generalize chr s pos = r at hnx HC HH
      generalize wid s pos = n at hnx HC HW hit2 hbw2 hwp
      have H1 := hideT (fun w' => mayNotBeBarred_is r w')
      cases hy : nbN r
      · rw [hy] at H1
        have hlast : ∀ k, k < pos + n → nbN (byt s k) = false := fun k hk => by
          by_cases h1 : k < pos
          · exact HK.out k h1
          · by_cases h2 : k = pos
            · subst h2
              by_cases hlo : byt s k < 128
              · rw [← (HC.out hlo).1]; exact hy
              · exact nbN_high (by omega)
            · exact nbN_high (HW.out.2 k (by omega) hk)
        have hle : pos + n ≤ s.size := HW.out.1
        have HL := hideT hlast
        clear hy hlast
        go_wp2_with fail
        refine (H1.out _).mono ?_
        rintro e w1 ⟨rfl, rfl⟩
        go_wp2
        go_roundw
        case rel => exact ⟨pos + n, hle, hit2, hbw2, HL.out⟩
        case measure => simp only [World.iterPos, hit2, hit]; omega
      · rw [hy] at H1
        have hv : b = true := HB.out.2 ⟨pos, hp, by
          by_cases hlo : byt s pos < 128
          · rw [← (HC.out hlo).1]; exact hy
          · rw [nbN_high (HH.out (by omega))] at hy
            exact absurd hy (by decide)⟩
        clear hy
        go_wp2_with fail
        refine (H1.out _).mono ?_
        rintro e w1 ⟨rfl, rfl⟩
        go_wp2
        go_ret
        refine ⟨⟨_, rfl, ?_⟩, hbw2⟩
        rw [hv]
        simp
    · have hnx : ∀ ty, (Instr.next (.pointer (some ⟨w.heap.size, 0, none⟩)) true ty).run Tryd.prog wr = _ := fun ty => Lib.run_next_end_at wr w.heap.size s pos ty hit hp
      have hv : b = false := by
        cases hc : b with
        | false => rfl
        | true =>
          obtain ⟨k, h1, h2⟩ := HB.out.1 hc
          rw [HK.out k (by omega)] at h2
          exact absurd h2 (by decide)
      go_wp2
      go_ret
      refine ⟨⟨_, rfl, ?_⟩, hbw⟩
      rw [hv]
      decide
theorem indexFuncT_bar (s : ByteArray) (hs : s.size ≤ 140737488355328) (b : Bool) (hb : b = true ↔ hasB nbN s) (w : World) :
    Calls Tryd.prog 103 #[.string s, .func (.func 88) #[] #[]] w fun e w' => (∃ j : Int, e = .returned (.int .i64 j) ∧ decide (j ≥ 0) = b) ∧ Below w.heap.size w w' := by
  have H := hideT (indexFunc_bar s hs b hb w)
  clear hb
  go_enter Tryd.func103, Tryd.ntmps103
  go_wp2_with fail
  refine H.out.mono ?_
  rintro e w1 ⟨⟨j, rfl, hj⟩, b1⟩
  go_wp2
  go_ret
  exact ⟨⟨j, rfl, hj⟩, b1⟩
theorem containsFunc_bar (s : ByteArray) (hs : s.size ≤ 140737488355328) (b : Bool) (hb : b = true ↔ hasB nbN s) (w : World) :
    Calls Tryd.prog 94 #[.string s, .func (.func 88) #[] #[]] w fun e w' => e = .returned (.bool b) ∧ Below w.heap.size w w' := by
  have H := hideT (indexFuncT_bar s hs b hb w)
  clear hb
  go_enter Tryd.func94, Tryd.ntmps94
  go_wp2_with fail
  refine H.out.mono ?_
  rintro e w1 ⟨⟨j, rfl, hj⟩, b1⟩
  go_wp2_with fail
  go_ret
  refine ⟨?_, b1⟩
  rw [← hj]; rfl

set_option maxHeartbeats 2000000 in
set_option maxRecDepth 100000 in
theorem indexFunc_quo (s : ByteArray) (hs : s.size ≤ 140737488355328) (b : Bool) (hb : b = true ↔ hasB nqN s) (w : World) :
    Calls Tryd.prog 112 #[.string s, .func (.func 89) #[] #[], .bool true] w fun e w' => (∃ j : Int, e = .returned (.int .i64 j) ∧ decide (j ≥ 0) = b) ∧ Below w.heap.size w w' := by
  have HB := hideT hb
  clear hb
  go_enter Tryd.func112, Tryd.ntmps112
  go_wp2
  go_loopw [] (fun wr => ∃ pos : Nat, pos ≤ s.size ∧ wr.heap[w.heap.size]? = some (.stringIter s pos) ∧ Below w.heap.size w wr ∧ ∀ k, k < pos → nqN (byt s k) = false) (fun wr => s.size - wr.iterPos w.heap.size)
  case atStart => exact ⟨0, Nat.zero_le _, World.iter_heap _ _ _, below_iter0 _ _ _, fun k hk => absurd hk (by omega)⟩
  case round =>
    obtain ⟨pos, hps, hit, hbw, hk⟩ := hrel
    have HK := hideT hk
    clear hk
    by_cases hp : pos < s.size
    · have hnx : ∀ ty, (Instr.next (.pointer (some ⟨w.heap.size, 0, none⟩)) true ty).run Tryd.prog wr = _ := fun ty => Lib.run_next_any_at wr w.heap.size s pos ty hit hp
      have hit2 := Lib.iterAt_heap wr w.heap.size s pos (pos + wid s pos) hit
      have hbw2 := Lib.below_iterAt hbw (k := w.heap.size) (Nat.le_refl _) s (pos + wid s pos)
      have hwp := wid_pos hp
      have HW := hideT (wid_in hp)
      have HC := hideT (fun h => chr_low hp h)
      have HH := hideT (fun h => (chr_high hp h).1)
      change ∀ ty, (Instr.next (.pointer (some ⟨w.heap.size, 0, none⟩)) true ty).run Tryd.prog wr = .ok (.tuple #[.bool true, .int .i64 pos, .int .i32 (chr s pos : Nat)]) (wr.iterAt w.heap.size s (pos + wid s pos)) at hnx
      generalize chr s pos = r at hnx HC HH
      generalize wid s pos = n at hnx HC HW hit2 hbw2 hwp
      have H1 := hideT (fun w' => mayNotBeQuoted_is r w')
      cases hy : nqN r
      · rw [hy] at H1
        have hlast : ∀ k, k < pos + n → nqN (byt s k) = false := fun k hk => by
          by_cases h1 : k < pos
          · exact HK.out k h1
          · by_cases h2 : k = pos
            · subst h2
              by_cases hlo : byt s k < 128
              · rw [← (HC.out hlo).1]; exact hy
              · exact nqN_high (by omega)
            · exact nqN_high (HW.out.2 k (by omega) hk)
        have hle : pos + n ≤ s.size := HW.out.1
        have HL := hideT hlast
        clear hy hlast
        go_wp2_with fail
        refine (H1.out _).mono ?_
        rintro e w1 ⟨rfl, rfl⟩
        go_wp2
        go_roundw
        case rel => exact ⟨pos + n, hle, hit2, hbw2, HL.out⟩
        case measure => simp only [World.iterPos, hit2, hit]; omega
      · rw [hy] at H1
        have hv : b = true := HB.out.2 ⟨pos, hp, by
          by_cases hlo : byt s pos < 128
          · rw [← (HC.out hlo).1]; exact hy
          · rw [nqN_high (HH.out (by omega))] at hy
            exact absurd hy (by decide)⟩
        clear hy
        go_wp2_with fail
        refine (H1.out _).mono ?_
        rintro e w1 ⟨rfl, rfl⟩
        go_wp2
        go_ret
        refine ⟨⟨_, rfl, ?_⟩, hbw2⟩
        rw [hv]
        simp
    · have hnx : ∀ ty, (Instr.next (.pointer (some ⟨w.heap.size, 0, none⟩)) true ty).run Tryd.prog wr = _ := fun ty => Lib.run_next_end_at wr w.heap.size s pos ty hit hp
      have hv : b = false := by
        cases hc : b with
        | false => rfl
        | true =>
          obtain ⟨k, h1, h2⟩ := HB.out.1 hc
          rw [HK.out k (by omega)] at h2
          exact absurd h2 (by decide)
      go_wp2
      go_ret
      refine ⟨⟨_, rfl, ?_⟩, hbw⟩
      rw [hv]
      decide
theorem indexFuncT_quo (s : ByteArray) (hs : s.size ≤ 140737488355328) (b : Bool) (hb : b = true ↔ hasB nqN s) (w : World) :
    Calls Tryd.prog 103 #[.string s, .func (.func 89) #[] #[]] w fun e w' => (∃ j : Int, e = .returned (.int .i64 j) ∧ decide (j ≥ 0) = b) ∧ Below w.heap.size w w' := by
  have H := hideT (indexFunc_quo s hs b hb w)
  clear hb
  go_enter Tryd.func103, Tryd.ntmps103
  go_wp2_with fail
  refine H.out.mono ?_
  rintro e w1 ⟨⟨j, rfl, hj⟩, b1⟩
  go_wp2
  go_ret
  exact ⟨⟨j, rfl, hj⟩, b1⟩
theorem containsFunc_quo (s : ByteArray) (hs : s.size ≤ 140737488355328) (b : Bool) (hb : b = true ↔ hasB nqN s) (w : World) :
    Calls Tryd.prog 94 #[.string s, .func (.func 89) #[] #[]] w fun e w' => e = .returned (.bool b) ∧ Below w.heap.size w w' := by
  have H := hideT (indexFuncT_quo s hs b hb w)
  clear hb
  go_enter Tryd.func94, Tryd.ntmps94
  go_wp2_with fail
  refine H.out.mono ?_
  rintro e w1 ⟨⟨j, rfl, hj⟩, b1⟩
  go_wp2_with fail
  go_ret
  refine ⟨?_, b1⟩
  rw [← hj]; rfl

end Go.Proofs.YtpfmamimhhnbiaaDoor
