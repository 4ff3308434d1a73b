/-
  Layer 1's texts: noughts ahead; what a number's text is.
-/
import Derived.Test.YtancpkegjgmlmaaDoorWT9
import Derived.Laws.IdiomStrings
namespace Go.Proofs.YtancpkegjgmlmaaDoor
open Go.RowKit
set_option linter.unusedVariables false

theorem dch_zero {v : Nat} (h : v < 16) : dch v = 48 ↔ v = 0 := by unfold dch; split <;> omega
set_option maxHeartbeats 4000000 in
theorem noughts_any (g L : Nat) (dg : Nat → Nat) (w : World) (h : Digs w) (hL1 : 1 ≤ L) (hL : L ≤ 562949953421312) (hc : ∀ j, j < L → w.cell? ⟨g, j, none⟩ = some (.int .u8 (dch (dg j) : Nat))) (hd : ∀ j, j < L → dg j < 16) :
    Calls Tryd.prog 43 #[.slice (some ⟨g, 0, none⟩) L L] w fun e w' => ∃ c : Nat, e = .returned (.int .i64 c) ∧ c < L ∧ (∀ j, j < c → dg j = 0) ∧ (c + 1 = L ∨ dg c ≠ 0) ∧ Dr w w' := by
  have HC := hide' hc
  have HDd := hide' hd
  have g0 := h 0 (by omega)
  rw [show dch 0 = 48 from rfl] at g0
  have wL : wrap64 ((L : Int) - 1) = (L : Int) - 1 := by unfold wrap64; omega
  have wL2 : IntKind.i64.wrap ((L : Int) - 1) = (L : Int) - 1 := by rw [IntKind.wrap_i64]; omega
  have WL := hide' wL
  have WL2 := hide' wL2
  clear hc hd wL wL2
  go_enter Tryd.func43, Tryd.ntmps43
  go_wp2_with fail
  go_loopw [3] (fun i wr => ∃ k : Nat, k < L ∧ i = .int .i64 k ∧ (∀ j, j < k → dg j = 0) ∧ Dr w wr) (fun i _ => L - (intOf i).toNat)
  case atStart => exact ⟨0, hL1, rfl, fun j hj => by omega, Dr.refl _⟩
  case round =>
    obtain ⟨k, hk, rfl, hj, hdr⟩ := hrel
    have HJ := hide' hj
    clear hj
    have hB := hdr.below w.heap.size
    have hcell := cellL hB (HC.out k hk)
    have g0' := cellL hB g0
    have hki : (k : Int) < (L : Int) := by omega
    have d16 := HDd.out k hk
    obtain ⟨D, hD⟩ : ∃ D, dg k = D := ⟨_, rfl⟩
    rw [hD] at hcell d16
    have HDe := hide' hD
    clear hD
    by_cases hlast : k + 1 = L
    · have hx : ¬ ((k : Int) < (L : Int) - 1) := by omega
      have hx2 : decide ((k : Int) < (L : Int) - 1) = false := by rw [decide_eq_false_iff_not]; omega
      have wL := WL.out
      have wL2 := WL2.out
      go_wp2_with fail
      go_quiet (fail)
      go_wp2_with fail
      go_ret
      exact ⟨k, rfl, hk, HJ.out, .inl hlast, hdr.drewN _⟩
    · have hx : (k : Int) < (L : Int) - 1 := by omega
      have wk : (k : Int) + 1 < (L : Int) := by omega
      by_cases hz : D = 0
      · have he : (((dch D : Nat) : Int) == 48) = true := by rw [hz]; rfl
        have wL := WL.out
        have wL2 := WL2.out
        go_wp2_with fail
        go_quiet (fail)
        go_wp2_with fail
        clear wL wL2
        exact ⟨⟨k + 1, by omega, by go_num, fun j hj => by
          by_cases e : j = k
          · rw [e, HDe.out]; exact hz
          · exact HJ.out j (by omega), hdr.drewN nq⟩, by simp [intOf]; omega⟩
      · have he : (((dch D : Nat) : Int) == 48) = false := by
          rw [beq_eq_false_iff_ne]; have := mt (dch_zero d16).1 hz; omega
        have wL := WL.out
        have wL2 := WL2.out
        go_wp2_with fail
        go_quiet (fail)
        go_wp2_with fail
        go_ret
        exact ⟨k, rfl, hk, HJ.out, .inr (by rw [HDe.out]; exact hz), hdr.drewN _⟩
/-- t is the text of X in the base b -/
def isTx (b X : Nat) (t : ByteArray) : Prop := 1 ≤ t.size ∧ X < b ^ t.size ∧ (t.size = 1 ∨ b ^ (t.size - 1) ≤ X) ∧ ∀ j, j < t.size → byt t j = dch (dgt b X t.size j)
theorem size_uniq {b X D E : Nat} (hb : 2 ≤ b) (h1 : X < b ^ D) (h2 : D = 1 ∨ b ^ (D - 1) ≤ X) (h3 : 1 ≤ D) (k1 : X < b ^ E) (k2 : E = 1 ∨ b ^ (E - 1) ≤ X) (k3 : 1 ≤ E) : D = E := by
  rcases Nat.lt_trichotomy D E with h | h | h
  · exfalso
    have hE : b ^ (E - 1) ≤ X := k2.resolve_left (by omega)
    have : b ^ D ≤ b ^ (E - 1) := Nat.pow_le_pow_right (by omega) (by omega)
    exact absurd h1 (Nat.not_lt.2 (Nat.le_trans this hE))
  · exact h
  · exfalso
    have hE : b ^ (D - 1) ≤ X := h2.resolve_left (by omega)
    have : b ^ E ≤ b ^ (D - 1) := Nat.pow_le_pow_right (by omega) (by omega)
    exact absurd k1 (Nat.not_lt.2 (Nat.le_trans this hE))
theorem ba_ext {s t : ByteArray} (h : s.size = t.size) (hb : ∀ j, j < s.size → byt s j = byt t j) : s = t := by
  obtain ⟨sd⟩ := s
  obtain ⟨td⟩ := t
  congr 1
  refine Array.ext h fun i h1 h2 => ?_
  have := hb i h1
  rw [byt_of (show i < (⟨sd⟩ : ByteArray).size from h1), byt_of (show i < (⟨td⟩ : ByteArray).size from h2)] at this
  exact UInt8.toNat_inj.1 this
theorem isTx.uniq {b X : Nat} {s t : ByteArray} (hb : 2 ≤ b) (h : isTx b X s) (k : isTx b X t) : s = t := by
  have e := size_uniq hb h.2.1 h.2.2.1 h.1 k.2.1 k.2.2.1 k.1
  exact ba_ext e fun j hj => by rw [h.2.2.2 j hj, k.2.2.2 j (by omega), e]
end Go.Proofs.YtancpkegjgmlmaaDoor
