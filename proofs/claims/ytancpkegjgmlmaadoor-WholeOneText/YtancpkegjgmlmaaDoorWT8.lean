/-
  Layer 1's texts: the digits of a number are written.
-/
import Derived.Test.YtancpkegjgmlmaaDoorWT6
namespace Go.Proofs.YtancpkegjgmlmaaDoor
open Go.RowKit
set_option linter.unusedVariables false

/-- the digit at the place j of L -/
def dgt (b X L j : Nat) : Nat := X / b ^ (L - 1 - j) % b
set_option maxHeartbeats 4000000 in
theorem writeLimb_any (p g off L cap V b : Nat) (w : World) (h : Digs w) (hb0 : 2 ≤ b) (hb : b ≤ 16) (hp : w.cell? ⟨p, 0, none⟩ = some (.int .i64 b)) (hV : V < 18446744073709551616) (hL : L ≤ 281474976710656) (hR : Row w g) (hg : 0 ≠ g) (hgp : p ≠ g) (hc : ∀ j, j < L → ∃ c, w.cell? ⟨g, off + j, none⟩ = some c) :
    Calls Tryd.prog 55 #[.pointer (some ⟨p, 0, none⟩), .slice (some ⟨g, off, none⟩) L cap, .int .u64 V] w fun e w' => e = .returned (.tuple #[]) ∧ Wr g off (off + L) w w' ∧ ∀ j, j < L → w'.cell? ⟨g, off + j, none⟩ = some (.int .u8 (dch (dgt b V L j) : Nat)) := by
  have HH := hide' h
  have HC := hide' hc
  have m0 : IntKind.u64.wrap (b : Int) = (b : Int) := wrapU (by omega)
  have wL : wrap64 ((L : Int) - 1) = (L : Int) - 1 := by unfold wrap64; omega
  clear hc
  go_enter Tryd.func55, Tryd.ntmps55
  go_wp2_with fail
  go_loopw [6, 2] (fun i v wr => ∃ r : Nat, r ≤ L ∧ i = .int .i64 ((r : Int) - 1) ∧ v = .int .u64 ((V / b ^ (L - r) : Nat) : Int) ∧ Wr g off (off + L) w wr ∧ (∀ j, j < L → ∃ c, wr.cell? ⟨g, off + j, none⟩ = some c) ∧ ∀ j, r ≤ j → j < L → wr.cell? ⟨g, off + j, none⟩ = some (.int .u8 (dch (dgt b V L j) : Nat))) (fun i _ _ => ((intOf i) + 1).toNat)
  case atStart => exact ⟨L, Nat.le_refl _, by first | rfl | rw [wL], by rw [Nat.sub_self, Nat.pow_zero, Nat.div_one], Wr.refl _ _ _ _, HC.out, fun j h1 h2 => by omega⟩
  case round =>
    obtain ⟨r, hr, rfl, rfl, hwr, hex, hj⟩ := hrel
    have HE := hide' hex
    clear hex
    have HJ := hide' hj
    clear hj
    by_cases h0 : 0 < r
    · obtain ⟨q, rfl⟩ : ∃ q, r = q + 1 := ⟨r - 1, by omega⟩
      have eq : (((q + 1 : Nat) : Int) - 1) = (q : Int) := by omega
      rw [eq]
      obtain ⟨X, hX⟩ : ∃ X, V / b ^ (L - (q + 1)) = X := ⟨_, rfl⟩
      rw [hX]
      have hXl : X < 18446744073709551616 := by rw [← hX]; exact Nat.lt_of_le_of_lt (Nat.div_le_self _ _) hV
      have hmod : X % b < 16 := Nat.lt_of_lt_of_le (Nat.mod_lt _ (by omega)) hb
      have hcell : wr.cell? ⟨0, X % b, none⟩ = some (.int .u8 (dch (X % b) : Nat)) := by
        rw [World.cell?_of_block (hwr.other 0 (World.block_lt_of_cell? w _ (HH.out _ hmod)) hg)]
        exact HH.out _ hmod
      have hp' : wr.cell? ⟨p, 0, none⟩ = some (.int .i64 b) := by
        rw [World.cell?_of_block (hwr.other p (World.block_lt_of_cell? w _ hp) hgp)]; exact hp
      have hfz := fun o => (hwr.row hR).frozen o
      obtain ⟨M, hM⟩ : ∃ M, X % b = M := ⟨_, rfl⟩
      obtain ⟨D, hD⟩ : ∃ D, X / b = D := ⟨_, rfl⟩
      rw [hM] at hmod hcell
      have hm : ((X : Int) % (b : Int)) = (M : Int) := by rw [← hM, Int.natCast_emod]
      have hd : ((X : Int) / (b : Int)) = (D : Int) := by rw [← hD, Int.natCast_ediv]
      have hbz : ¬ ((b : Int) = 0) := by omega
      have hbz2 : ((b : Int) == 0) = false := by rw [beq_eq_false_iff_ne]; omega
      have hM16 : (M : Int) < 16 := by omega
      have hDl : D < 18446744073709551616 := by rw [← hD]; exact Nat.lt_of_le_of_lt (Nat.div_le_self _ _) hXl
      have mM : IntKind.u64.wrap (M : Int) = (M : Int) := wrapU (by omega)
      have mD : IntKind.u64.wrap (D : Int) = (D : Int) := wrapU (by omega)
      have hqL : (q : Int) < (L : Int) := by omega
      have hq0 : (0 : Int) ≤ (q : Int) := by omega
      have wq : wrap64 ((q : Int) - 1) = (q : Int) - 1 := by unfold wrap64; omega
      obtain ⟨cw, hcw⟩ := HE.out q (by omega)
      have HX := hide' hX
      have HM := hide' hM
      have HDd := hide' hD
      clear hX hM hD
      go_wp2_with fail
      have eL : L - (q + 1) = L - 1 - q := by omega
      refine ⟨⟨q, by omega, rfl, ?_, hwr.setCell (off + q) (by omega) (by omega) _, fun j hj => ?_, fun j h1 h2 => ?_⟩, by simp [intOf] <;> omega⟩
      · congr 2
        rw [← HDd.out, ← HX.out, Nat.div_div_eq_div_mul, ← Nat.pow_succ]
        congr 2
        omega
      · by_cases e : j = q
        · subst e; exact ⟨_, World.cell?_setCell_same _ _ _ hcw⟩
        · obtain ⟨c, hcj⟩ := HE.out j hj
          exact ⟨c, by rw [World.cell?_setCell_other _ _ _ _ (fun e' => e (by simp at e' <;> omega))]; exact hcj⟩
      · by_cases e : j = q
        · subst e
          rw [World.cell?_setCell_same _ _ _ hcw]
          unfold dgt
          rw [← eL, HX.out, HM.out]
        · rw [World.cell?_setCell_other _ _ _ _ (fun e' => e (by simp at e' <;> omega))]
          exact HJ.out j (by omega) h2
    · obtain rfl : r = 0 := by omega
      have hneg : ¬ ((0 : Int) ≤ ((0 : Nat) : Int) - 1) := by omega
      go_wp2_with fail
      go_end0
      exact ⟨rfl, hwr, fun j hj => HJ.out j (Nat.zero_le _) hj⟩
end Go.Proofs.YtancpkegjgmlmaaDoor
