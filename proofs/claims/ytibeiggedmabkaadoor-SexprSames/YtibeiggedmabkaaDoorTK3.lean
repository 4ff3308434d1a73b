/-
  strings.ContainsRune of the seventeen signs and any character; isSymbol.
-/
import Derived.Test.YtibeiggedmabkaaDoorTK1
import Derived.BigQuiet
import Derived.Deep.QuietTactic
import Derived.Lib.IndexLaws
import Derived.Lib.OthersKept
namespace Go.Proofs.YtibeiggedmabkaaDoor
open Go.RowKit
set_option linter.unusedVariables false
set_option linter.unusedSimpArgs false

def sgS : ByteArray := ⟨#[126, 33, 64, 36, 37, 94, 38, 42, 95, 45, 43, 61, 60, 62, 46, 63, 47]⟩
theorem sgS_size : sgS.size = 17 := rfl
theorem sgS_byt : ∀ k, k < 17 → byt sgS k = sgL.getD k 0 := by
  intro k hk
  have h : ∀ k : Fin 17, byt sgS k.val = sgL.getD k.val 0 := by decide
  exact h ⟨k, hk⟩
theorem sgN_iff (c : Nat) : sgN c = true ↔ ∃ k, k < sgS.size ∧ byt sgS k = c := by
  unfold sgN
  rw [sgS_size, List.contains_iff_mem, List.mem_iff_getElem]
  constructor
  · rintro ⟨k, hk, e⟩
    have hk' : k < 17 := hk
    refine ⟨k, hk', ?_⟩
    rw [sgS_byt k hk', List.getD_eq_getElem?_getD, List.getElem?_eq_getElem hk]
    exact e
  · rintro ⟨k, hk, e⟩
    have hk' : k < sgL.length := hk
    refine ⟨k, hk', ?_⟩
    rw [sgS_byt k hk, List.getD_eq_getElem?_getD, List.getElem?_eq_getElem hk'] at e
    exact e
theorem sgS_low {k : Nat} (hk : k < 17) : byt sgS k < 128 := by
  have h : ∀ k : Fin 17, byt sgS k.val < 128 := by decide
  exact h ⟨k, hk⟩

set_option maxHeartbeats 1000000 in
theorem within_any (s : ByteArray) (hs : s.size ≤ 140737488355328) (c : Nat) (b : Bool) (hb : b = true ↔ ∃ k, k < s.size ∧ byt s k = c) (w : World) :
    Calls Tryd.prog 83 #[.int .u8 c, .string s] w fun e w' => e = .returned (.bool b) ∧ w' = w := by
  have HB := hideT hb
  clear hb
  go_enter Tryd.func83, Tryd.ntmps83
  go_wp2
  go_loop [5] (fun i => ∃ k : Nat, k ≤ s.size ∧ i = .int .i64 k ∧ ∀ j, j < k → byt s j ≠ c) (fun i => s.size - (intOf i).toNat)
  case atStart => exact ⟨0, Nat.zero_le _, rfl, fun j hj => by omega⟩
  case round =>
    obtain ⟨k, hk, rfl, hj⟩ := hrel
    have HJ := hideT hj
    clear hj
    by_cases hlt : k < s.size
    · have hki : ((k : Int) < (s.size : Int)) := by omega
      have ek := byt_of hlt
      by_cases he : byt s k = c
      · have hx : (((s[k]'hlt).toNat : Int) == (c : Int)) = true := by rw [← ek, he]; simp
        have hv : b = true := HB.out.2 ⟨k, hlt, he⟩
        clear he ek HB
        go_wp2
        go_ret
        try rw [hv]
        exact ⟨rfl, rfl⟩
      · have hx : (((s[k]'hlt).toNat : Int) == (c : Int)) = false := by rw [← ek, beq_eq_false_iff_ne]; omega
        go_wp2
        go_round
        case rel => exact ⟨k + 1, by omega, by go_num, fun j hj => by
          by_cases e : j = k
          · rw [e]; exact he
          · exact HJ.out j (by omega)⟩
        case measure => simp [intOf]; omega
    · have hki : ¬ ((k : Int) < (s.size : Int)) := by omega
      have hv : b = false := by
        cases hc : b with
        | false => rfl
        | true =>
          obtain ⟨j, h1, h2⟩ := HB.out.1 hc
          exact absurd h2 (HJ.out j (by omega))
      clear HB
      go_wp2
      go_ret
      try rw [hv]
      exact ⟨rfl, rfl⟩
theorem within_is (c : Nat) (w : World) : Calls Tryd.prog 83 #[.int .u8 c, .string sgS] w fun e w' => e = .returned (.bool (sgN c)) ∧ w' = w :=
  within_any sgS (by decide) c (sgN c) (sgN_iff c) w

set_option maxHeartbeats 1000000 in
theorem symbolByte_is (r : Nat) (w : World) : Calls Tryd.prog 69 #[.int .u8 r] w fun e w' => e = .returned (.bool (syN r)) ∧ w' = w := by
  have H1 := fun w' => letter_is r w'
  have H2 := fun w' => digit_is r w'
  have H3 := fun w' => within_is r w'
  unfold sgS at H3
  have hv : syN r = (ltN r || (dgN r || sgN r)) := by unfold syN; cases dgN r <;> cases ltN r <;> rfl
  rw [hv]
  clear hv
  generalize ltN r = b1 at H1 ⊢
  generalize dgN r = b2 at H2 ⊢
  generalize sgN r = b3 at H3 ⊢
  go_enter Tryd.func69, Tryd.ntmps69
  go_wp2_with fail
  refine (H1 _).mono ?_
  rintro e w1 ⟨rfl, rfl⟩
  cases b1
  · go_wp2_with fail
    refine (H2 _).mono ?_
    rintro e w1 ⟨rfl, rfl⟩
    cases b2
    · go_wp2_with fail
      refine (H3 _).mono ?_
      rintro e w1 ⟨rfl, rfl⟩
      go_wp2
      go_ret
      exact ⟨rfl, rfl⟩
    · go_wp2
      go_ret
      exact ⟨rfl, rfl⟩
  · go_wp2
    go_ret
    exact ⟨rfl, rfl⟩
end Go.Proofs.YtibeiggedmabkaaDoor

namespace Go.Proofs.YtibeiggedmabkaaDoor
open Go.RowKit
set_option linter.unusedVariables false
set_option linter.unusedSimpArgs false

theorem below_iter0 (w : World) (s : ByteArray) (p : Nat) : Below w.heap.size w (w.iter s p) := (Below.refl _ w).alloc (Nat.le_refl _) _
set_option maxRecDepth 100000 in
theorem liteIndexByte_is (s : ByteArray) (c : Nat) (w : World) : Calls Tryd.prog 96 #[.string s, .int .u8 c] w fun e w' => e = .returned (.int .i64 (Lib.indexByte s.data.toList c.toUInt8)) ∧ w' = w := by
  go_enter Tryd.func96, Tryd.ntmps96
  go_wp2
  rw [run_callFunc_extern Tryd.func103 (by kernel_rfl) (by kernel_rfl) (by kernel_rfl) (e := Extern.BytealgIndexByte.indexByte) (by kernel_rfl), Lib.run_indexByteString]
  simp only [Result.andThen]
  rw [Oper.upon_value]
  go_wp2
  go_ret
  exact ⟨rfl, rfl⟩
set_option maxRecDepth 100000 in
theorem sIndexByte_is (s : ByteArray) (c : Nat) (j : Int) (hj : Lib.indexByte s.data.toList c.toUInt8 = j) (w : World) : Calls Tryd.prog 86 #[.string s, .int .u8 c] w fun e w' => e = .returned (.int .i64 j) ∧ w' = w := by
  have H := hideT (fun w' => liteIndexByte_is s c w')
  rw [hj] at H
  go_enter Tryd.func86, Tryd.ntmps86
  go_wp2_with fail
  refine (H.out _).mono ?_
  rintro e w1 ⟨rfl, rfl⟩
  go_wp2
  go_ret
  exact ⟨rfl, rfl⟩

set_option maxRecDepth 1000000 in
theorem sgS_find (r : Nat) (hr : r < 128) : ∃ j : Int, Lib.indexByte sgS.data.toList r.toUInt8 = j ∧ decide (j ≥ 0) = sgN r := by
  have h : ∀ r : Fin 128, decide (Lib.indexByte sgS.data.toList r.val.toUInt8 ≥ 0) = sgN r.val := by decide
  exact ⟨_, rfl, h ⟨r, hr⟩⟩
theorem sgS_mem : ∀ b ∈ sgS.data.toList, b.toNat < 128 := by decide

set_option maxHeartbeats 2000000 in
set_option maxRecDepth 100000 in
theorem indexRune_low (r : Nat) (hr : r < 128) (w : World) : Calls Tryd.prog 84 #[.string sgS, .int .i32 r] w fun e w' => (∃ j : Int, e = .returned (.int .i64 j) ∧ decide (j ≥ 0) = sgN r) ∧ w' = w := by
  obtain ⟨j, hj, hv⟩ := sgS_find r hr
  have H := hideT (fun w' => sIndexByte_is sgS r j hj w')
  have h1 : (0 : Int) ≤ (r : Int) := by omega
  have h2 : (r : Int) < 128 := by omega
  have h3 : (r : Int) % 256 = r := by omega
  clear hj
  generalize sgS = s at H ⊢
  go_enter Tryd.func84, Tryd.ntmps84
  go_wp2_with fail
  refine (H.out _).mono ?_
  rintro e w1 ⟨rfl, rfl⟩
  go_wp2
  go_ret
  exact ⟨⟨_, rfl, hv⟩, rfl⟩

set_option maxHeartbeats 2000000 in
set_option maxRecDepth 100000 in
theorem indexRune_err (w : World) : Calls Tryd.prog 84 #[.string sgS, .int .i32 65533] w fun e w' => e = .returned (.int .i64 (-1)) ∧ Below w.heap.size w w' := by
  have hlow : ∀ k, k < sgS.size → byt sgS k < 128 := fun k hk => sgS_low hk
  have HL := hideT hlow
  clear hlow
  generalize sgS = s at HL ⊢
  go_enter Tryd.func84, Tryd.ntmps84
  go_wp2
  go_loopw [] (fun wr => ∃ pos : Nat, wr.heap[w.heap.size]? = some (.stringIter s pos) ∧ Below w.heap.size w wr) (fun wr => s.size - wr.iterPos w.heap.size)
  case atStart => exact ⟨0, World.iter_heap _ _ _, below_iter0 _ _ _⟩
  case round =>
    obtain ⟨pos, hit, hb⟩ := hrel
    by_cases hp : pos < s.size
    · have hnx : ∀ ty, (Instr.next (.pointer (some ⟨w.heap.size, 0, none⟩)) true ty).run Tryd.prog wr = _ := fun ty => Lib.run_next_any_at wr w.heap.size s pos ty hit hp
      have hl := HL.out pos hp
      obtain ⟨e1, e2⟩ := chr_low hp hl
      unfold chr at e1
      unfold wid at e2
      rw [e1, e2] at hnx
      have hx : ((byt s pos : Int) == 65533) = false := by rw [beq_eq_false_iff_ne]; omega
      clear e1 e2
      go_wp2
      go_roundw
      case rel => exact ⟨pos + 1, Lib.iterAt_heap wr _ s pos _ hit, Lib.below_iterAt hb (Nat.le_refl _) s _⟩
      case measure => simp only [World.iterPos, Lib.iterAt_heap wr _ s pos _ hit, hit]; omega
    · have hnx : ∀ ty, (Instr.next (.pointer (some ⟨w.heap.size, 0, none⟩)) true ty).run Tryd.prog wr = _ := fun ty => Lib.run_next_end_at wr w.heap.size s pos ty hit hp
      go_wp2
      go_ret
      exact ⟨rfl, hb⟩
end Go.Proofs.YtibeiggedmabkaaDoor
