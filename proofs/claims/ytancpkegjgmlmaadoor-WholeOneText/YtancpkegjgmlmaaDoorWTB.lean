/-
  Layer 1's texts: Text.
-/
import Derived.Test.YtancpkegjgmlmaaDoorWTA
namespace Go.Proofs.YtancpkegjgmlmaaDoor
open Go.RowKit
set_option linter.unusedVariables false

theorem lead_lt {b X Q : Nat} (hb : 2 ≤ b) (hX : X < b ^ Q) : ∀ c, c < Q → (∀ j, j < c → dgt b X Q j = 0) → X < b ^ (Q - c)
  | 0, _, _ => hX
  | c + 1, hc, h => by
    have ih := lead_lt hb hX c (by omega) (fun j hj => h j (by omega))
    have hz := h c (by omega)
    unfold dgt at hz
    have e : Q - c = (Q - 1 - c) + 1 := by omega
    rw [e, Nat.pow_succ] at ih
    have h1 : X / b ^ (Q - 1 - c) < b := by rw [Nat.div_lt_iff_lt_mul (Nat.pow_pos (by omega))]; rw [Nat.mul_comm]; exact ih
    rw [Nat.mod_eq_of_lt h1, Nat.div_eq_zero_iff] at hz
    rw [show Q - (c + 1) = Q - 1 - c by omega]
    rcases hz with hz | hz
    · exact absurd hz (Nat.pos_iff_ne_zero.1 (Nat.pow_pos (by omega)))
    · exact hz
theorem lead_le {b X Q c : Nat} (h : dgt b X Q c ≠ 0) : b ^ (Q - 1 - c) ≤ X := by
  rcases Nat.lt_or_ge X (b ^ (Q - 1 - c)) with h1 | h1
  · exact absurd (by unfold dgt; rw [Nat.div_eq_of_lt h1, Nat.zero_mod]) h
  · exact h1
theorem dgt_tail {b X Q c j : Nat} (h : c + j < Q) : dgt b X Q (c + j) = dgt b X (Q - c) j := by
  unfold dgt
  rw [show Q - 1 - (c + j) = Q - c - 1 - j by omega]
theorem dgt_lt {b X Q j : Nat} (hb : 2 ≤ b) : dgt b X Q j < b := Nat.mod_lt _ (by omega)
/-- the bytes behind the noughts -/
def tl (b X Q c : Nat) : List UInt8 := (List.range (Q - c)).map fun j => UInt8.ofNat (dch (dgt b X Q (c + j)))
theorem tl_length (b X Q c : Nat) : (tl b X Q c).length = Q - c := by simp [tl]
theorem tl_at {b X Q c j : Nat} (hb0 : 2 ≤ b) (hb : b ≤ 16) (hj : j < (tl b X Q c).length) : ((tl b X Q c)[j]).toNat = dch (dgt b X Q (c + j)) := by
  have h1 := dch_lt (v := dgt b X Q (c + j)) (Nat.lt_of_lt_of_le (dgt_lt hb0) hb)
  simp only [tl, List.getElem_map, List.getElem_range, UInt8.toNat_ofNat']
  exact Nat.mod_eq_of_lt (by omega)
theorem tl_isTx {b X Q c : Nat} (hb0 : 2 ≤ b) (hb : b ≤ 16) (hX : X < b ^ Q) (hc : c < Q) (hz : ∀ j, j < c → dgt b X Q j = 0) (hl : c + 1 = Q ∨ dgt b X Q c ≠ 0) : isTx b X ⟨(tl b X Q c).toArray⟩ := by
  have hs : (⟨(tl b X Q c).toArray⟩ : ByteArray).size = Q - c := by
    show (tl b X Q c).toArray.size = Q - c
    rw [List.size_toArray, tl_length]
  refine ⟨by omega, by rw [hs]; exact lead_lt hb0 hX c hc hz, ?_, fun j hj => ?_⟩
  · rw [hs]
    rcases hl with h | h
    · exact .inl (by omega)
    · right
      rw [show Q - c - 1 = Q - 1 - c by omega]
      exact lead_le h
  · rw [hs] at hj ⊢
    rw [byt_of (by omega), ← dgt_tail (by omega)]
    exact tl_at hb0 hb (by rw [tl_length]; exact hj)
theorem mkB (n : Nat) (hn : n ≤ 281474976710656) (w : World) : (Instr.makeSlice 62 (.int .i64 (n : Int)) (.int .i64 (n : Int))).run Tryd.prog w = .ok (.slice (some ⟨w.heap.size, 0, none⟩) n n) (w.alloc (.cells (madeCells #[.int .u8 0] n) 5)) :=
  run_make_row' (P := Tryd.prog) 62 5 (.int .u8 0) 1 Tryd.underlying62 (by kernel_rfl) rfl .i64 .i64 n (by omega) (by omega) w
theorem mkB_cell (n t j : Nat) (w : World) (hj : j < n) : (w.alloc (.cells (madeCells #[.int .u8 0] n) t)).cell? ⟨w.heap.size, 0 + j, none⟩ = some (.int .u8 0) := by
  have hh : (w.alloc (.cells (madeCells #[.int .u8 0] n) t)).heap[w.heap.size]? = some (.cells (madeCells #[.int .u8 0] n) t) := by
    show (w.heap.push _)[w.heap.size]? = _
    rw [Array.getElem?_push, if_pos rfl]
  rw [Nat.zero_add]
  simp only [World.cell?, hh, Option.isSome_none, Bool.false_eq_true, if_false]
  exact cell_made n j hj _
set_option maxHeartbeats 1000000 in
theorem Text_base (a : Option Addr) (n cap : Nat) (z : Int) (h : z < 2 ∨ 16 < z) (w : World) : Calls Tryd.prog 22 #[.slice a n cap, .int .i64 z] w fun e w' => e = .returned (.tuple #[.string ⟨#[]⟩, .int .i64 14]) ∧ w' = w := by
  have H := hide' (isBase_not z h)
  go_enter Tryd.func22, Tryd.ntmps22
  go_wp2_with fail
  refine (H.out _).mono ?_
  rintro e w0 ⟨rfl, rfl⟩
  go_wp2
  go_ret2
  exact ⟨rfl, rfl⟩
end Go.Proofs.YtancpkegjgmlmaaDoor
