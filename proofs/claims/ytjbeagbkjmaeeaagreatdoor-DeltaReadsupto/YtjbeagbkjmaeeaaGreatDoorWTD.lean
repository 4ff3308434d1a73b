/-
  Layer 1's texts: a number's text is read as the number.
-/
import Derived.Test.YtjbeagbkjmaeeaaGreatDoorWT6
import Derived.Test.YtjbeagbkjmaeeaaGreatDoorW11
import Derived.Laws.IdiomStrings
namespace Go.Proofs.YtjbeagbkjmaeeaaGreatDoor
open Go.RowKit
set_option linter.unusedVariables false

/-- the digit at the place j of L -/
def dgt (b X L j : Nat) : Nat := X / b ^ (L - 1 - j) % b
set_option maxHeartbeats 4000000 in
theorem writeLimb_any (p g off L cap V b : Nat) (w : World) (h : Digs w) (hb0 : 2 ≤ b) (hb : b ≤ 16) (hp : w.cell? ⟨p, 0, none⟩ = some (.int .i64 b)) (hV : V < 18446744073709551616) (hL : L ≤ 281474976710656) (hR : Row w g) (hg : 3 ≠ g) (hgp : p ≠ g) (hc : ∀ j, j < L → ∃ c, w.cell? ⟨g, off + j, none⟩ = some c) :
    Calls Tryz.prog 140 #[.pointer (some ⟨p, 0, none⟩), .slice (some ⟨g, off, none⟩) L cap, .int .u64 V] w fun e w' => e = .returned (.tuple #[]) ∧ Wr g off (off + L) w w' ∧ ∀ j, j < L → w'.cell? ⟨g, off + j, none⟩ = some (.int .u8 (dch (dgt b V L j) : Nat)) := by
  have HH := hide' h
  have HC := hide' hc
  have m0 : IntKind.u64.wrap (b : Int) = (b : Int) := wrapU (by omega)
  have wL : wrap64 ((L : Int) - 1) = (L : Int) - 1 := by unfold wrap64; omega
  clear hc
  go_enter Tryz.func140, Tryz.ntmps140
  go_wp2_with fail
  go_loopw [6, 2] (fun i v wr => ∃ r : Nat, r ≤ L ∧ i = .int .i64 ((r : Int) - 1) ∧ v = .int .u64 ((V / b ^ (L - r) : Nat) : Int) ∧ Wr g off (off + L) w wr ∧ (∀ j, j < L → ∃ c, wr.cell? ⟨g, off + j, none⟩ = some c) ∧ ∀ j, r ≤ j → j < L → wr.cell? ⟨g, off + j, none⟩ = some (.int .u8 (dch (dgt b V L j) : Nat))) (fun i _ _ => ((intOf i) + 1).toNat)
  case atStart => exact ⟨L, Nat.le_refl _, by first | rfl | rw [wL], by rw [Nat.sub_self, Nat.pow_zero, Nat.div_one], Wr.refl _ _ _ _, HC.out, fun j h1 h2 => by omega⟩
  case round =>
    obtain ⟨r, hr, rfl, rfl, hwr, hex, hj⟩ := hrel
    have HE := hide' hex
    clear hex
    have HJ := hide' hj
    clear hj
    by_cases h0 : 0 < r
    · obtain ⟨q, rfl⟩ : ∃ q, r = q + 1 := ⟨r - 1, by omega⟩
      have eq : (((q + 1 : Nat) : Int) - 1) = (q : Int) := by omega
      rw [eq]
      obtain ⟨X, hX⟩ : ∃ X, V / b ^ (L - (q + 1)) = X := ⟨_, rfl⟩
      rw [hX]
      have hXl : X < 18446744073709551616 := by rw [← hX]; exact Nat.lt_of_le_of_lt (Nat.div_le_self _ _) hV
      have hmod : X % b < 16 := Nat.lt_of_lt_of_le (Nat.mod_lt _ (by omega)) hb
      have hcell : wr.cell? ⟨3, X % b, none⟩ = some (.int .u8 (dch (X % b) : Nat)) := by
        rw [World.cell?_of_block (hwr.other 3 (World.block_lt_of_cell? w _ (HH.out _ hmod)) hg)]
        exact HH.out _ hmod
      have hp' : wr.cell? ⟨p, 0, none⟩ = some (.int .i64 b) := by
        rw [World.cell?_of_block (hwr.other p (World.block_lt_of_cell? w _ hp) hgp)]; exact hp
      have hfz := fun o => (hwr.row hR).frozen o
      obtain ⟨M, hM⟩ : ∃ M, X % b = M := ⟨_, rfl⟩
      obtain ⟨D, hD⟩ : ∃ D, X / b = D := ⟨_, rfl⟩
      rw [hM] at hmod hcell
      have hm : ((X : Int) % (b : Int)) = (M : Int) := by rw [← hM, Int.natCast_emod]
      have hd : ((X : Int) / (b : Int)) = (D : Int) := by rw [← hD, Int.natCast_ediv]
      have hbz : ¬ ((b : Int) = 0) := by omega
      have hbz2 : ((b : Int) == 0) = false := by rw [beq_eq_false_iff_ne]; omega
      have hM16 : (M : Int) < 16 := by omega
      have hDl : D < 18446744073709551616 := by rw [← hD]; exact Nat.lt_of_le_of_lt (Nat.div_le_self _ _) hXl
      have mM : IntKind.u64.wrap (M : Int) = (M : Int) := wrapU (by omega)
      have mD : IntKind.u64.wrap (D : Int) = (D : Int) := wrapU (by omega)
      have hqL : (q : Int) < (L : Int) := by omega
      have hq0 : (0 : Int) ≤ (q : Int) := by omega
      have wq : wrap64 ((q : Int) - 1) = (q : Int) - 1 := by unfold wrap64; omega
      obtain ⟨cw, hcw⟩ := HE.out q (by omega)
      have HX := hide' hX
      have HM := hide' hM
      have HDd := hide' hD
      clear hX hM hD
      go_wp2_with fail
      have eL : L - (q + 1) = L - 1 - q := by omega
      refine ⟨⟨q, by omega, rfl, ?_, hwr.setCell (off + q) (by omega) (by omega) _, fun j hj => ?_, fun j h1 h2 => ?_⟩, by simp [intOf] <;> omega⟩
      · congr 2
        rw [← HDd.out, ← HX.out, Nat.div_div_eq_div_mul, ← Nat.pow_succ]
        congr 2
        omega
      · by_cases e : j = q
        · subst e; exact ⟨_, World.cell?_setCell_same _ _ _ hcw⟩
        · obtain ⟨c, hcj⟩ := HE.out j hj
          exact ⟨c, by rw [World.cell?_setCell_other _ _ _ _ (fun e' => e (by simp at e' <;> omega))]; exact hcj⟩
      · by_cases e : j = q
        · subst e
          rw [World.cell?_setCell_same _ _ _ hcw]
          unfold dgt
          rw [← eL, HX.out, HM.out]
        · rw [World.cell?_setCell_other _ _ _ _ (fun e' => e (by simp at e' <;> omega))]
          exact HJ.out j (by omega) h2
    · obtain rfl : r = 0 := by omega
      have hneg : ¬ ((0 : Int) ≤ ((0 : Nat) : Int) - 1) := by omega
      go_wp2_with fail
      go_end0
      exact ⟨rfl, hwr, fun j hj => HJ.out j (Nat.zero_le _) hj⟩
end Go.Proofs.YtjbeagbkjmaeeaaGreatDoor

namespace Go.Proofs.YtjbeagbkjmaeeaaGreatDoor
open Go.RowKit
set_option linter.unusedVariables false

theorem Seg.wr0 {w w' : World} {a : Option Addr} {X n b lo hi : Nat} (h : Seg w a X n) (k : Wr b lo hi w w') (hne : 0 < n → ∀ o, a ≠ some ⟨b, o, none⟩) : Seg w' a X n := by
  by_cases hn : 0 < n
  · exact h.wr k (hne hn)
  · obtain rfl : n = 0 := by omega
    exact ⟨h.1, fun h => absurd h (by omega)⟩
theorem New.off {w w' : World} {a : Option Addr} {X n g : Nat} (h : New w w' a X n) (hg : g < w.heap.size) : 0 < n → ∀ o, a ≠ some ⟨g, o, none⟩ := fun hn o he => by
  obtain ⟨b, off, e, hb, _⟩ := h.fresh hn
  rw [e] at he
  simp at he
  try omega
theorem dgt_high {b X Q j : Nat} (hj : j < Q) : dgt b (X / b ^ Q) Q j = dgt b X (Q + Q) j := by
  unfold dgt
  rw [Nat.div_div_eq_div_mul, ← Nat.pow_add, show Q + (Q - 1 - j) = Q + Q - 1 - j by omega]
theorem dgt_low {b X Q j : Nat} (hj : j < Q) : dgt b (X % b ^ Q) Q j = dgt b X (Q + Q) (Q + j) := by
  unfold dgt
  rw [show Q + Q - 1 - (Q + j) = Q - 1 - j by omega]
  have e : b ^ Q = b ^ (Q - 1 - j) * b ^ (j + 1) := by rw [← Nat.pow_add, show Q - 1 - j + (j + 1) = Q by omega]
  rw [e, Nat.mod_mul_right_div_self, Nat.mod_mod_of_dvd _ ⟨b ^ j, by rw [Nat.pow_succ, Nat.mul_comm]⟩]
theorem halves {n m L Q : Nat} (hL : n * 2 ^ (m + 1) = L) (hQ : n * 2 ^ m = Q) : L = Q + Q := by rw [← hL, ← hQ, Nat.pow_succ, ← Nat.mul_assoc, Nat.mul_two]
theorem half_le {n m k Q N : Nat} (hQ : n * 2 ^ m = Q) (hmk : m ≤ k) (h : n * 2 ^ k ≤ N) : Q ≤ N := by
  rw [← hQ]
  exact Nat.le_trans (Nat.mul_le_mul_left n (Nat.pow_le_pow_right (by decide) hmk)) h
theorem half_lt {b X L Q : Nat} (hb : 0 < b) (hLQ : L = Q + Q) (hX : X < b ^ L) : X / b ^ Q < b ^ Q ∧ X % b ^ Q < b ^ Q := by
  refine ⟨?_, Nat.mod_lt _ (Nat.pow_pos hb)⟩
  rw [Nat.div_lt_iff_lt_mul (Nat.pow_pos hb), ← Nat.pow_add, ← hLQ]
  exact hX
set_option maxHeartbeats 1000000 in
theorem write_step (p g off L co X m k cap g0 off0 P Q : Nat) (ax aP : Option Addr) (w : World) (S1 : World → World → Option Addr → Prop) (S2 : World → Prop) (f2 : w.cell? ⟨p, 2, none⟩ = some (.slice (some ⟨g0, off0, none⟩) k cap)) (fP : w.cell? ⟨g0, off0 + m, none⟩ = some (.slice aP (ln P) (ln P))) (wm : wrap64 (m : Int) = (m : Int)) (hm : m < k) (hm2 : (m : Int) < (k : Int))
    (hq2 : ((L : Int) / 2) = (Q : Int)) (hq3 : (Q : Int) ≤ (L : Int)) (hq4 : (0 : Int) ≤ (Q : Int)) (hq5 : (L : Int) ≤ (co : Int)) (hq6 : (Q : Int) ≤ (co : Int)) (wq : wrap64 (Q : Int) = (Q : Int)) (hq7 : (Q : Int) < (co : Int)) (hq8 : Q < co) (hq9 : ¬ (co - Q = 0)) (hqa : ¬ (co ≤ Q)) (hqb : ¬ (Q = co)) (hqc : ¬ ((Q : Int) = (co : Int))) (eL : L - Q = Q)
    (HD : Hid (Calls Tryz.prog 84 #[.slice ax (ln X) (ln X), .slice aP (ln P) (ln P)] w fun e w' => ∃ aq ar, e = .returned (.tuple #[.slice aq (ln (X / P)) (ln (X / P)), .slice ar (ln (X % P)) (ln (X % P)), .int .i64 0]) ∧ New w w' aq (X / P) (ln (X / P)) ∧ New w w' ar (X % P) (ln (X % P))))
    (I1 : Hid (∀ aq ar w1, New w w1 aq (X / P) (ln (X / P)) → New w w1 ar (X % P) (ln (X % P)) → Calls Tryz.prog 118 #[.pointer (some ⟨p, 0, none⟩), .slice (some ⟨g, off, none⟩) Q co, .slice aq (ln (X / P)) (ln (X / P)), .int .i64 m] w1 fun e w2 => e = .returned (.tuple #[]) ∧ S1 w1 w2 ar))
    (I2 : Hid (∀ ar w1 w2, S1 w1 w2 ar → Calls Tryz.prog 118 #[.pointer (some ⟨p, 0, none⟩), .slice (some ⟨g, off + Q, none⟩) Q (co - Q), .slice ar (ln (X % P)) (ln (X % P)), .int .i64 m] w2 fun e w3 => e = .returned (.tuple #[]) ∧ S2 w3)) :
    Calls Tryz.prog 118 #[.pointer (some ⟨p, 0, none⟩), .slice (some ⟨g, off, none⟩) L co, .slice ax (ln X) (ln X), .int .i64 ((m + 1 : Nat) : Int)] w fun e w3 => e = .returned (.tuple #[]) ∧ S2 w3 := by
  obtain ⟨D, hDe⟩ : ∃ D, X / P = D := ⟨_, rfl⟩
  obtain ⟨M, hMe⟩ : ∃ M, X % P = M := ⟨_, rfl⟩
  rw [hDe, hMe] at HD I1
  rw [hMe] at I2
  clear hDe hMe
  go_enter Tryz.func118, Tryz.ntmps118
  go_wp2_with fail
  refine HD.out.mono ?_
  rintro e w1 ⟨aq, ar, rfl, h1, h2⟩
  have J1 := hide' (I1.out aq ar w1 h1 h2)
  clear h1 h2
  go_wp2_with fail
  refine J1.out.mono ?_
  rintro e w2 ⟨rfl, hs1⟩
  have J2 := hide' (I2.out ar w1 w2 hs1)
  clear hs1
  go_wp2_with fail
  refine J2.out.mono ?_
  rintro e w3 ⟨rfl, hs2⟩
  go_wp2
  go_end0
  exact ⟨rfl, hs2⟩
set_option maxHeartbeats 4000000 in
theorem write_any (p b n k cap g : Nat) (ao : Option Addr) (w0 : World) (hb0 : 2 ≤ b) (hb : b ≤ 16) (hn : b ^ n < 4294967296) (hn1 : 1 ≤ n) (hkc : k ≤ cap) (hk40 : k ≤ 48) (hnk : n * 2 ^ k ≤ 281474976710656) (hD : Digs w0) (c0 : w0.cell? ⟨p, 0, none⟩ = some (.int .i64 b)) (c2 : w0.cell? ⟨p, 2, none⟩ = some (.slice ao k cap)) (hP : Pw w0 ao b n k) (hg : w0.heap.size ≤ g) :
    ∀ (m off L co X : Nat) (ax : Option Addr) (w : World), m ≤ k → n * 2 ^ m = L → L ≤ co → Below w0.heap.size w0 w → Row w g → (∀ j, j < L → ∃ c, w.cell? ⟨g, off + j, none⟩ = some c) → Seg w ax X (ln X) → (0 < ln X → ∀ o, ax ≠ some ⟨g, o, none⟩) → X < b ^ L →
    Calls Tryz.prog 118 #[.pointer (some ⟨p, 0, none⟩), .slice (some ⟨g, off, none⟩) L co, .slice ax (ln X) (ln X), .int .i64 m] w fun e w' => e = .returned (.tuple #[]) ∧ Wr g off (off + L) w w' ∧ ∀ j, j < L → w'.cell? ⟨g, off + j, none⟩ = some (.int .u8 (dch (dgt b X L j) : Nat)) := by
  have hplt := World.block_lt_of_cell? w0 _ c0
  have hdlt := World.block_lt_of_cell? w0 _ (hD 0 (by omega))
  simp only at hplt hdlt
  have HN := hide' hn
  have HNK := hide' hnk
  clear hn hnk
  intro m
  induction m with
  | zero =>
    intro off L co X ax w hmk hL hLc hbel hR hc hS hax hX
    rw [Nat.pow_zero, Nat.mul_one] at hL
    subst hL
    have hX32 : X < 4294967296 := Nat.lt_trans hX HN.out
    have hl1 : ln X ≤ 2 := ln_le_of_lt (by rw [BB2]; omega)
    have hnk2 : n ≤ 281474976710656 := Nat.le_trans (Nat.le_mul_of_pos_right _ (Nat.pow_pos (by omega))) HNK.out
    have H1 := hide' (word_any ax (ln X) (ln X) X w hl1 hS)
    have H2 := hide' (writeLimb_any p g off n co X b w (hD.below hbel) hb0 hb (cellL hbel c0) (by omega) hnk2 hR (by omega) (by omega) hc)
    clear hc hX
    go_enter Tryz.func118, Tryz.ntmps118
    go_wp2_with fail
    refine H1.out.mono ?_
    rintro e w1 ⟨rfl, rfl⟩
    go_wp2_with fail
    refine H2.out.mono ?_
    rintro e w2 ⟨rfl, hw, hcs⟩
    go_wp2
    refine bodyPost_ret (results_none rfl _ _ _) rfl ?_
    exact ⟨rfl, hw, hcs⟩
  | succ m ih =>
    intro off L co X ax w hmk hL hLc hbel hR hc hS hax hX
    obtain ⟨Q, hQ⟩ : ∃ Q, n * 2 ^ m = Q := ⟨_, rfl⟩
    have hmk' : m ≤ k := Nat.le_of_succ_le hmk
    have hLQ := halves hL hQ
    have hQpos : 0 < Q := by rw [← hQ]; exact Nat.mul_pos hn1 (Nat.pow_pos (by decide))
    have hQ4 := half_le hQ hmk' HNK.out
    have hP0 := hP m hmk
    rw [hQ] at hP0
    have hb1 : 0 < b := Nat.lt_of_lt_of_le (by decide) hb0
    obtain ⟨hXQ, hXm⟩ := half_lt hb1 hLQ hX
    have hL8 : L ≤ 281474976710656 := by rw [← hL]; exact Nat.le_trans (Nat.mul_le_mul_left n (Nat.pow_le_pow_right (by omega) hmk)) HNK.out
    have hXl : ln X ≤ L / 8 + 1 := ln_le_of_lt (Nat.lt_trans hX (lt8 hb))
    have hPl : ln (b ^ Q) ≤ Q / 8 + 1 := ln_le_of_lt (lt8 hb)
    have hP1 : b ^ Q ≠ 0 := Nat.pos_iff_ne_zero.1 (Nat.pow_pos hb1)
    have HG1 : ∀ j, j < Q → dgt b (X / b ^ Q) Q j = dgt b X L j := fun j hj => by rw [hLQ]; exact dgt_high hj
    have HG2 : ∀ j, j < Q → dgt b (X % b ^ Q) Q j = dgt b X L (Q + j) := fun j hj => by rw [hLQ]; exact dgt_low hj
    have IH0 : ∀ off co X ax w, Q ≤ co → Below w0.heap.size w0 w → Row w g → (∀ j, j < Q → ∃ c, w.cell? ⟨g, off + j, none⟩ = some c) → Seg w ax X (ln X) → (0 < ln X → ∀ o, ax ≠ some ⟨g, o, none⟩) → X < b ^ Q → _ := fun off co X ax w k1 k2 k3 k4 k5 k6 k7 => ih off Q co X ax w hmk' hQ k1 k2 k3 k4 k5 k6 k7
    obtain ⟨P, hPe⟩ : ∃ P, b ^ Q = P := ⟨_, rfl⟩
    rw [hPe] at hP0 hXQ hXm hPl hP1 HG1 HG2 IH0
    have IH := hide' IH0
    clear ih IH0 hL hQ hX hPe
    obtain ⟨g0, off0, aP, rfl, hg0, hcP, hsP⟩ := hP0
    have hglt := hR.lt
    have f2 := cellL hbel c2
    have fP := cellL hbel hcP
    have fS := segL hbel hsP
    have HXQ := hide' hXQ
    have HXM := hide' hXm
    have GG1 := hide' HG1
    have GG2 := hide' HG2
    clear hXQ hXm HG1 HG2
    have HDv := hide' (Div_any ax aP (ln X) (ln X) X (ln P) (ln P) P w (Nat.le_refl _) (by omega) hS (Nat.le_refl _) (by omega) fS hP1)
    have I1 : ∀ aq ar w1, New w w1 aq (X / P) (ln (X / P)) → New w w1 ar (X % P) (ln (X % P)) → Calls Tryz.prog 118 #[.pointer (some ⟨p, 0, none⟩), .slice (some ⟨g, off, none⟩) Q co, .slice aq (ln (X / P)) (ln (X / P)), .int .i64 m] w1 fun e w2 => e = .returned (.tuple #[]) ∧ (Below w.heap.size w w1 ∧ New w w1 ar (X % P) (ln (X % P)) ∧ Wr g off (off + Q) w1 w2 ∧ ∀ j, j < Q → w2.cell? ⟨g, off + j, none⟩ = some (.int .u8 (dch (dgt b (X / P) Q j) : Nat))) := fun aq ar w1 h1 h2 =>
      (IH.out off co (X / P) aq w1 (by omega) (hbel.trans (h1.below.mono hbel.size)) (below_row h1.below hR) (fun j hj => by obtain ⟨c, hcc⟩ := hc j (by omega); exact ⟨c, cellL h1.below hcc⟩) h1.seg (h1.off hglt) HXQ.out).mono fun e w2 ⟨e1, e2, e3⟩ => ⟨e1, h1.below, h2, e2, e3⟩
    have I2 : ∀ ar w1 w2, (Below w.heap.size w w1 ∧ New w w1 ar (X % P) (ln (X % P)) ∧ Wr g off (off + Q) w1 w2 ∧ ∀ j, j < Q → w2.cell? ⟨g, off + j, none⟩ = some (.int .u8 (dch (dgt b (X / P) Q j) : Nat))) → Calls Tryz.prog 118 #[.pointer (some ⟨p, 0, none⟩), .slice (some ⟨g, off + Q, none⟩) Q (co - Q), .slice ar (ln (X % P)) (ln (X % P)), .int .i64 m] w2 fun e w3 => e = .returned (.tuple #[]) ∧ (Wr g off (off + L) w w3 ∧ ∀ j, j < L → w3.cell? ⟨g, off + j, none⟩ = some (.int .u8 (dch (dgt b X L j) : Nat))) := fun ar w1 w2 ⟨b1, h2, hw2, hc2⟩ => by
      have bel1 := hbel.trans (b1.mono hbel.size)
      refine (IH.out (off + Q) (co - Q) (X % P) ar w2 (by omega) (bel1.trans (hw2.below hg bel1.size)) (hw2.row (below_row b1 hR)) (fun j hj => ?_) (h2.seg.wr0 hw2 (h2.off hglt)) (h2.off hglt) HXM.out).mono fun e w3 ⟨e1, e2, e3⟩ => ⟨e1, ?_, fun j hj => ?_⟩
      · obtain ⟨c, hcc⟩ := hc (Q + j) (by omega)
        exact ⟨c, by rw [hw2.cell (off + Q + j) (by omega), Nat.add_assoc]; exact cellL b1 hcc⟩
      · exact (Wr.of_below b1 hglt).trans ((hw2.mono (Nat.le_refl _) (by omega)).trans (e2.mono (by omega) (by omega)))
      · by_cases hjQ : j < Q
        · rw [e2.cell (off + j) (by omega), hc2 j hjQ, GG1.out j hjQ]
        · have := e3 (j - Q) (by omega)
          rw [GG2.out (j - Q) (by omega), show off + Q + (j - Q) = off + j by omega, show Q + (j - Q) = j by omega] at this
          exact this
    have hQ1 : 0 < Q := hQpos
    exact write_step p g off L co X m k cap g0 off0 P Q ax aP w _ _ f2 fP (by unfold wrap64; omega) (by omega) (by omega) (by omega) (by omega) (by omega) (by omega) (by omega) (by unfold wrap64; omega) (by omega) (by omega) (by omega) (by omega) (by omega) (by omega) (by omega) HDv (hide' I1) (hide' I2)
end Go.Proofs.YtjbeagbkjmaeeaaGreatDoor

namespace Go.Proofs.YtjbeagbkjmaeeaaGreatDoor
open Go.RowKit
set_option linter.unusedVariables false

theorem dch_zero {v : Nat} (h : v < 16) : dch v = 48 ↔ v = 0 := by unfold dch; split <;> omega
set_option maxHeartbeats 4000000 in
theorem noughts_any (g L : Nat) (dg : Nat → Nat) (w : World) (h : Digs w) (hL1 : 1 ≤ L) (hL : L ≤ 562949953421312) (hc : ∀ j, j < L → w.cell? ⟨g, j, none⟩ = some (.int .u8 (dch (dg j) : Nat))) (hd : ∀ j, j < L → dg j < 16) :
    Calls Tryz.prog 119 #[.slice (some ⟨g, 0, none⟩) L L] w fun e w' => ∃ c : Nat, e = .returned (.int .i64 c) ∧ c < L ∧ (∀ j, j < c → dg j = 0) ∧ (c + 1 = L ∨ dg c ≠ 0) ∧ Dr w w' := by
  have HC := hide' hc
  have HDd := hide' hd
  have g0 := h 0 (by omega)
  rw [show dch 0 = 48 from rfl] at g0
  have wL : wrap64 ((L : Int) - 1) = (L : Int) - 1 := by unfold wrap64; omega
  have wL2 : IntKind.i64.wrap ((L : Int) - 1) = (L : Int) - 1 := by rw [IntKind.wrap_i64]; omega
  have WL := hide' wL
  have WL2 := hide' wL2
  clear hc hd wL wL2
  go_enter Tryz.func119, Tryz.ntmps119
  go_wp2_with fail
  go_loopw [3] (fun i wr => ∃ k : Nat, k < L ∧ i = .int .i64 k ∧ (∀ j, j < k → dg j = 0) ∧ Dr w wr) (fun i _ => L - (intOf i).toNat)
  case atStart => exact ⟨0, hL1, rfl, fun j hj => by omega, Dr.refl _⟩
  case round =>
    obtain ⟨k, hk, rfl, hj, hdr⟩ := hrel
    have HJ := hide' hj
    clear hj
    have hB := hdr.below w.heap.size
    have hcell := cellL hB (HC.out k hk)
    have g0' := cellL hB g0
    have hki : (k : Int) < (L : Int) := by omega
    have d16 := HDd.out k hk
    obtain ⟨D, hD⟩ : ∃ D, dg k = D := ⟨_, rfl⟩
    rw [hD] at hcell d16
    have HDe := hide' hD
    clear hD
    by_cases hlast : k + 1 = L
    · have hx : ¬ ((k : Int) < (L : Int) - 1) := by omega
      have hx2 : decide ((k : Int) < (L : Int) - 1) = false := by rw [decide_eq_false_iff_not]; omega
      have wL := WL.out
      have wL2 := WL2.out
      go_wp2_with fail
      go_quiet (fail)
      go_wp2_with fail
      go_ret
      exact ⟨k, rfl, hk, HJ.out, .inl hlast, hdr.drewN _⟩
    · have hx : (k : Int) < (L : Int) - 1 := by omega
      have wk : (k : Int) + 1 < (L : Int) := by omega
      by_cases hz : D = 0
      · have he : (((dch D : Nat) : Int) == 48) = true := by rw [hz]; rfl
        have wL := WL.out
        have wL2 := WL2.out
        go_wp2_with fail
        go_quiet (fail)
        go_wp2_with fail
        clear wL wL2
        exact ⟨⟨k + 1, by omega, by go_num, fun j hj => by
          by_cases e : j = k
          · rw [e, HDe.out]; exact hz
          · exact HJ.out j (by omega), hdr.drewN nq⟩, by simp [intOf]; omega⟩
      · have he : (((dch D : Nat) : Int) == 48) = false := by
          rw [beq_eq_false_iff_ne]; have := mt (dch_zero d16).1 hz; omega
        have wL := WL.out
        have wL2 := WL2.out
        go_wp2_with fail
        go_quiet (fail)
        go_wp2_with fail
        go_ret
        exact ⟨k, rfl, hk, HJ.out, .inr (by rw [HDe.out]; exact hz), hdr.drewN _⟩
/-- t is the text of X in the base b -/
def isTx (b X : Nat) (t : ByteArray) : Prop := 1 ≤ t.size ∧ X < b ^ t.size ∧ (t.size = 1 ∨ b ^ (t.size - 1) ≤ X) ∧ ∀ j, j < t.size → byt t j = dch (dgt b X t.size j)
theorem size_uniq {b X D E : Nat} (hb : 2 ≤ b) (h1 : X < b ^ D) (h2 : D = 1 ∨ b ^ (D - 1) ≤ X) (h3 : 1 ≤ D) (k1 : X < b ^ E) (k2 : E = 1 ∨ b ^ (E - 1) ≤ X) (k3 : 1 ≤ E) : D = E := by
  rcases Nat.lt_trichotomy D E with h | h | h
  · exfalso
    have hE : b ^ (E - 1) ≤ X := k2.resolve_left (by omega)
    have : b ^ D ≤ b ^ (E - 1) := Nat.pow_le_pow_right (by omega) (by omega)
    exact absurd h1 (Nat.not_lt.2 (Nat.le_trans this hE))
  · exact h
  · exfalso
    have hE : b ^ (D - 1) ≤ X := h2.resolve_left (by omega)
    have : b ^ E ≤ b ^ (D - 1) := Nat.pow_le_pow_right (by omega) (by omega)
    exact absurd k1 (Nat.not_lt.2 (Nat.le_trans this hE))
theorem ba_ext {s t : ByteArray} (h : s.size = t.size) (hb : ∀ j, j < s.size → byt s j = byt t j) : s = t := by
  obtain ⟨sd⟩ := s
  obtain ⟨td⟩ := t
  congr 1
  refine Array.ext h fun i h1 h2 => ?_
  have := hb i h1
  rw [byt_of (show i < (⟨sd⟩ : ByteArray).size from h1), byt_of (show i < (⟨td⟩ : ByteArray).size from h2)] at this
  exact UInt8.toNat_inj.1 this
theorem isTx.uniq {b X : Nat} {s t : ByteArray} (hb : 2 ≤ b) (h : isTx b X s) (k : isTx b X t) : s = t := by
  have e := size_uniq hb h.2.1 h.2.2.1 h.1 k.2.1 k.2.2.1 k.1
  exact ba_ext e fun j hj => by rw [h.2.2.2 j hj, k.2.2.2 j (by omega), e]
end Go.Proofs.YtjbeagbkjmaeeaaGreatDoor

namespace Go.Proofs.YtjbeagbkjmaeeaaGreatDoor
open Go.RowKit
set_option linter.unusedVariables false

theorem lead_lt {b X Q : Nat} (hb : 2 ≤ b) (hX : X < b ^ Q) : ∀ c, c < Q → (∀ j, j < c → dgt b X Q j = 0) → X < b ^ (Q - c)
  | 0, _, _ => hX
  | c + 1, hc, h => by
    have ih := lead_lt hb hX c (by omega) (fun j hj => h j (by omega))
    have hz := h c (by omega)
    unfold dgt at hz
    have e : Q - c = (Q - 1 - c) + 1 := by omega
    rw [e, Nat.pow_succ] at ih
    have h1 : X / b ^ (Q - 1 - c) < b := by rw [Nat.div_lt_iff_lt_mul (Nat.pow_pos (by omega))]; rw [Nat.mul_comm]; exact ih
    rw [Nat.mod_eq_of_lt h1, Nat.div_eq_zero_iff] at hz
    rw [show Q - (c + 1) = Q - 1 - c by omega]
    rcases hz with hz | hz
    · exact absurd hz (Nat.pos_iff_ne_zero.1 (Nat.pow_pos (by omega)))
    · exact hz
theorem lead_le {b X Q c : Nat} (h : dgt b X Q c ≠ 0) : b ^ (Q - 1 - c) ≤ X := by
  rcases Nat.lt_or_ge X (b ^ (Q - 1 - c)) with h1 | h1
  · exact absurd (by unfold dgt; rw [Nat.div_eq_of_lt h1, Nat.zero_mod]) h
  · exact h1
theorem dgt_tail {b X Q c j : Nat} (h : c + j < Q) : dgt b X Q (c + j) = dgt b X (Q - c) j := by
  unfold dgt
  rw [show Q - 1 - (c + j) = Q - c - 1 - j by omega]
theorem dgt_lt {b X Q j : Nat} (hb : 2 ≤ b) : dgt b X Q j < b := Nat.mod_lt _ (by omega)
/-- the bytes behind the noughts -/
def tl (b X Q c : Nat) : List UInt8 := (List.range (Q - c)).map fun j => UInt8.ofNat (dch (dgt b X Q (c + j)))
theorem tl_length (b X Q c : Nat) : (tl b X Q c).length = Q - c := by simp [tl]
theorem tl_at {b X Q c j : Nat} (hb0 : 2 ≤ b) (hb : b ≤ 16) (hj : j < (tl b X Q c).length) : ((tl b X Q c)[j]).toNat = dch (dgt b X Q (c + j)) := by
  have h1 := dch_lt (v := dgt b X Q (c + j)) (Nat.lt_of_lt_of_le (dgt_lt hb0) hb)
  simp only [tl, List.getElem_map, List.getElem_range, UInt8.toNat_ofNat']
  exact Nat.mod_eq_of_lt (by omega)
theorem tl_isTx {b X Q c : Nat} (hb0 : 2 ≤ b) (hb : b ≤ 16) (hX : X < b ^ Q) (hc : c < Q) (hz : ∀ j, j < c → dgt b X Q j = 0) (hl : c + 1 = Q ∨ dgt b X Q c ≠ 0) : isTx b X ⟨(tl b X Q c).toArray⟩ := by
  have hs : (⟨(tl b X Q c).toArray⟩ : ByteArray).size = Q - c := by
    show (tl b X Q c).toArray.size = Q - c
    rw [List.size_toArray, tl_length]
  refine ⟨by omega, by rw [hs]; exact lead_lt hb0 hX c hc hz, ?_, fun j hj => ?_⟩
  · rw [hs]
    rcases hl with h | h
    · exact .inl (by omega)
    · right
      rw [show Q - c - 1 = Q - 1 - c by omega]
      exact lead_le h
  · rw [hs] at hj ⊢
    rw [byt_of (by omega), ← dgt_tail (by omega)]
    exact tl_at hb0 hb (by rw [tl_length]; exact hj)
theorem mkB (n : Nat) (hn : n ≤ 281474976710656) (w : World) : (Instr.makeSlice 123 (.int .i64 (n : Int)) (.int .i64 (n : Int))).run Tryz.prog w = .ok (.slice (some ⟨w.heap.size, 0, none⟩) n n) (w.alloc (.cells (madeCells #[.int .u8 0] n) 5)) :=
  run_make_row' (P := Tryz.prog) 123 5 (.int .u8 0) 1 Tryz.underlying123 (by kernel_rfl) rfl .i64 .i64 n (by omega) (by omega) w
theorem mkB_cell (n t j : Nat) (w : World) (hj : j < n) : (w.alloc (.cells (madeCells #[.int .u8 0] n) t)).cell? ⟨w.heap.size, 0 + j, none⟩ = some (.int .u8 0) := by
  have hh : (w.alloc (.cells (madeCells #[.int .u8 0] n) t)).heap[w.heap.size]? = some (.cells (madeCells #[.int .u8 0] n) t) := by
    show (w.heap.push _)[w.heap.size]? = _
    rw [Array.getElem?_push, if_pos rfl]
  rw [Nat.zero_add]
  simp only [World.cell?, hh, Option.isSome_none, Bool.false_eq_true, if_false]
  exact cell_made n j hj _
end Go.Proofs.YtjbeagbkjmaeeaaGreatDoor

namespace Go.Proofs.YtjbeagbkjmaeeaaGreatDoor
open Go.RowKit
set_option linter.unusedVariables false

theorem pow_room {b n k X D : Nat} (hb0 : 2 ≤ b) (hn1 : 1 ≤ n) (hD : D ≤ 140737488355328) (hX : X < b ^ D) (h : b ^ (n * 2 ^ k) ≤ X) : k + 1 ≤ 48 ∧ n * 2 ^ (k + 1) ≤ 281474976710656 := by
  have h3 : n * 2 ^ k < D := (Nat.pow_lt_pow_iff_right (a := b) (by omega)).1 (Nat.lt_of_le_of_lt h hX)
  have h4 : 2 ^ k ≤ n * 2 ^ k := Nat.le_mul_of_pos_left _ (by omega)
  have h5 : 2 ^ k < 2 ^ 47 := Nat.lt_of_le_of_lt h4 (Nat.lt_of_lt_of_le h3 (by clear h hX h3 h4; rw [show (2 : Nat) ^ 47 = 140737488355328 by decide]; exact hD))
  have h6 := (Nat.pow_lt_pow_iff_right (a := 2) (by decide)).1 h5
  refine ⟨by clear h3 h4 h5 h hX; omega, ?_⟩
  rw [Nat.pow_succ, ← Nat.mul_assoc]
  obtain ⟨Q, hQ⟩ : ∃ Q, n * 2 ^ k = Q := ⟨_, rfl⟩
  rw [hQ] at h3 ⊢
  clear h4 h5 h6 hQ h hX
  omega
theorem Sc.drewN {w : World} {B p b n k q : Nat} {v : Value} {xs : List Value} {an : Option Addr} (h : Sc w B p b n k v xs an) : Sc (w.drewN q) B p b n k v xs an := ⟨h.row, h.pB, h.c0, h.c1, h.c2, h.c3, h.own, h.vp, h.olds, h.next, h.np, h.nv⟩
set_option maxHeartbeats 4000000 in
set_option maxRecDepth 100000 in
theorem Text_dig (a : Option Addr) (na cap X b D : Nat) (hb0 : 2 ≤ b) (hb : b ≤ 16) (w : World) (h : Digs w) (hca : na ≤ cap) (hna : na ≤ 70368744177660) (hD : D ≤ 140737488355328) (hXD : X < b ^ D) (hS : Seg w a X na) :
    Calls Tryz.prog 88 #[.slice a na cap, .int .i64 b] w fun e w' => ∃ t, e = .returned (.tuple #[.string t, .int .i64 0]) ∧ isTx b X t ∧ Below w.heap.size w w' := by
  have H := hide' (isBase_ok b hb0 hb)
  have H2 := hide' (trim_any a na cap X w hca (by omega) hS)
  have H3 := hide' (scaleOf_any b hb0 hb)
  have HH := hide' h
  have hl0 : ln X ≤ D / 8 + 1 := ln_le_of_lt (Nat.lt_trans hXD (lt8 hb))
  have hl : ln X ≤ 17592186044417 := by omega
  have HXD := hide' hXD
  clear hXD hl0
  go_enter Tryz.func88, Tryz.ntmps88
  go_wp2_with fail
  refine (H.out _).mono ?_
  rintro e w0 ⟨rfl, rfl⟩
  go_wp2_with fail
  refine H2.out.mono ?_
  rintro e w1 ⟨ax, rfl, rfl, ht⟩
  have hSx := hS.trm ht
  go_wp2_with fail
  refine (H3.out _).mono ?_
  rintro e w2 ⟨n, a2, rfl, h2, hn1, hn31, hlt⟩
  have hB := h2.below
  have ba := below_alloc (w := w2) (.cells #[.int .i64 b, .int .i64 n, .slice none 0 0, .slice a2 (ln (b ^ n)) (ln (b ^ n))] 111)
  have hBa := hB.trans (ba.mono hB.size)
  have hSc : Sc (w2.alloc (.cells #[.int .i64 b, .int .i64 n, .slice none 0 0, .slice a2 (ln (b ^ n)) (ln (b ^ n))] 111)) w0.heap.size w2.heap.size b n 0 (.slice none 0 0) [] a2 := by
    refine ⟨row_new _ _ _, hB.size, by go_simp, by go_simp, by go_simp, ?_, World.ownsRow_nil _ _ _ _, by simp [Value.ownBlock], fun i hi => absurd hi (by omega), ?_, ?_, fun g hg => by cases hg⟩
    · rw [Nat.pow_zero, Nat.mul_one]; go_simp
    · rw [Nat.pow_zero, Nat.mul_one]; exact segL ba h2.seg
    · exact h2.seg.ne_new (ln_pw hb0) (Nat.le_refl _)
  have hlt' := hide' hlt
  clear hlt
  go_wp2_with fail
  generalize w2.alloc (.cells #[.int .i64 b, .int .i64 n, .slice none 0 0, .slice a2 (ln (b ^ n)) (ln (b ^ n))] 111) = W at hBa hSc ⊢
  go_loopw [16] (fun _ wr => ∃ k v xs an, Sc wr w0.heap.size w2.heap.size b n k v xs an ∧ Below w0.heap.size w0 wr ∧ k ≤ 48 ∧ n * 2 ^ k ≤ 281474976710656) (fun _ wr => 49 - lenAt w2.heap.size wr)
  case atStart => exact ⟨0, _, _, _, hSc, hBa, by omega, by rw [Nat.pow_zero]; omega⟩
  case round =>
    obtain ⟨k, v, xs, an, hSS, hbel, hk, hk2⟩ := hrel
    obtain ⟨ao, co, rfl, hcap, hpw⟩ := hSS.form
    obtain ⟨N, hN⟩ : ∃ N, b ^ (n * 2 ^ k) = N := ⟨_, rfl⟩
    obtain ⟨Q, hQ⟩ : ∃ Q, n * 2 ^ k = Q := ⟨_, rfl⟩
    have hQ4 : Q ≤ 281474976710656 := by rw [← hQ]; exact hk2
    have HQ := hide' hQ
    have HK2 := hide' hk2
    have HN := hide' hN
    have c0 := hSS.c0
    have c2 := hSS.c2
    have c3 := hSS.c3
    have c1 := hSS.c1
    have nx := hSS.next
    rw [hN] at c3 nx
    have hlN : ln N ≤ Q / 8 + 1 := by rw [← hN, hQ]; exact ln_le_of_lt (lt8 hb)
    have hl0 := lenAt_of c2
    clear hQ hk2 hN
    have sx := hSx.below hbel (Nat.le_refl _)
    have HCm := hide' (Cmp_any ax an (ln X) (ln X) X (ln N) (ln N) N wr (Nat.le_refl _) (by omega) sx (Nat.le_refl _) (by omega) nx)
    by_cases hq : N ≤ X
    · have hcm : ¬ (cmpI X N < 0) := by unfold cmpI; split <;> (try split) <;> omega
      have hcm2 : (0 : Int) ≤ cmpI X N := by omega
      obtain ⟨hk39, hn2⟩ := pow_room (b := b) (n := n) (k := k) hb0 hn1 hD HXD.out (by rw [HN.out]; exact hq)
      have HN2 := hide' hn2
      clear hn2
      go_wp2_with fail
      refine HCm.out.mono ?_
      rintro e w3 ⟨rfl, q3, rfl⟩
      have HG := hide' (grow_any w0.heap.size w2.heap.size b n k N _ xs an _ (hSS.drewN (q := q3)) hbel.size hb0 (by omega) HN.out (Nat.le_trans (ln_mono hq) (by omega)))
      go_wp2_with fail
      refine HG.out.mono ?_
      rintro e w4 ⟨rfl, bel4, v', an', hS'⟩
      go_wp2
      go_roundw
      case rel => exact ⟨k + 1, v', _, an', hS', (below_drewN (q := q3) hbel).trans bel4, hk39, HN2.out⟩
      case measure =>
        obtain ⟨ao', cap', rfl, _, _⟩ := hS'.form
        have hl1 := lenAt_of hS'.c2
        rw [hl0, hl1]
        omega
    · have hcm : cmpI X N = -1 := cmpI_lt (by omega)
      rw [hcm] at HCm
      have hXN : X < b ^ Q := by rw [← HQ.out, HN.out]; omega
      have hsh : wrap64 ((n : Int) * 2 ^ k) = (Q : Int) := shl_is HQ.out (by omega)
      have HXN := hide' hXN
      clear hXN
      go_wp2_with fail
      refine HCm.out.mono ?_
      rintro e w3 ⟨rfl, q3, rfl⟩
      have d0 : (wr.drewN q3).cell? ⟨w2.heap.size, 0, none⟩ = _ := c0
      have d1 : (wr.drewN q3).cell? ⟨w2.heap.size, 1, none⟩ = _ := c1
      have d2 : (wr.drewN q3).cell? ⟨w2.heap.size, 2, none⟩ = _ := c2
      go_wp2_with fail
      clear hsh
      have hQ1 : 1 ≤ Q := by rw [← HQ.out]; exact Nat.mul_pos hn1 (Nat.pow_pos (by decide))
      have hS3 := hSS.drewN (q := q3)
      have hpw3 : Pw (wr.drewN q3) ao b n k := hpw
      have sx3 : Seg (wr.drewN q3) ax X (ln X) := sx
      have bel3 := below_drewN (q := q3) hbel
      generalize wr.drewN q3 = W3 at d0 d1 d2 hS3 hpw3 sx3 bel3 ⊢
      clear hSS hpw sx hbel c0 c1 c2 c3 nx HCm hl0
      rw [mkB Q (by omega)]
      simp only [Result.andThen]
      rw [Oper.upon_value]
      have b4 := below_alloc (w := W3) (.cells (madeCells #[.int .u8 0] Q) 5)
      have r4 := row_new W3 (madeCells #[.int .u8 0] Q) 5
      have HW := hide' (write_any w2.heap.size b n k co W3.heap.size ao W3 hb0 hb hlt'.out hn1 hcap hk HK2.out (HH.out.below bel3) d0 d2 hpw3 (Nat.le_refl _) k 0 Q Q X ax _ (Nat.le_refl _) HQ.out (Nat.le_refl _) b4 r4 (fun j hj => ⟨_, mkB_cell Q _ j W3 hj⟩) (segL b4 sx3) (fun h => sx3.ne_new h (Nat.le_refl _)) HXN.out)
      have e2 := cellL b4 d2
      generalize W3.alloc (.cells (madeCells #[.int .u8 0] Q) 5) = W4 at b4 r4 HW e2 ⊢
      go_wp2_with fail
      refine HW.out.mono ?_
      rintro e w5 ⟨rfl, hw5, hc5⟩
      have bel4 := bel3.trans (b4.mono bel3.size)
      have bel5 := bel4.trans (hw5.below (B := w0.heap.size) bel3.size bel4.size)
      have HNo := hide' (noughts_any W3.heap.size Q (fun j => dgt b X Q j) w5 (HH.out.below bel5) hQ1 (by omega) (fun j hj => by have := hc5 j hj; rw [Nat.zero_add] at this; exact this) (fun j hj => Nat.lt_of_lt_of_le (dgt_lt hb0) hb))
      have HC5 := hide' hc5
      clear hc5
      go_wp2_with fail
      refine HNo.out.mono ?_
      rintro e w6 ⟨c, rfl, hcl, hz, hor, q6, rfl⟩
      have HT := hide' (tl_isTx hb0 hb HXN.out hcl hz hor)
      have hcv := fun cap => run_convert_bytes_back (P := Tryz.prog) (w5.drewN q6) 123 9 5 ⟨W3.heap.size, c, none⟩ cap (tl b X Q c) Tryz.underlying123 Tryz.underlying5 Tryz.underlying9 (fun j hj => by
        have h1 := HC5.out (c + j) (by rw [tl_length] at hj; omega)
        rw [Nat.zero_add] at h1
        rw [tl_at hb0 hb hj]
        have : (⟨W3.heap.size, c, none⟩ : Addr).add j = ⟨W3.heap.size, c + j, none⟩ := by unfold Addr.add; split <;> simp_all
        rw [this]
        exact h1)
      rw [tl_length] at hcv
      have hci : (c : Int) ≤ (Q : Int) := by omega
      have hci2 : (0 : Int) ≤ (c : Int) := by omega
      have hci3 : ¬ (Q - c = 0) := by omega
      have hci4 : ¬ (Q ≤ c) := by omega
      have hci5 : ¬ (c = Q) := by omega
      have hci6 : (c : Int) < (Q : Int) := by omega
      clear hz hor
      go_wp2
      go_ret2
      exact ⟨_, rfl, HT.out, below_drewN bel5⟩
theorem Text_any (a : Option Addr) (na cap X b : Nat) (hb0 : 2 ≤ b) (hb : b ≤ 16) (w : World) (h : Digs w) (hca : na ≤ cap) (hna : na ≤ 1073741824) (hS : Seg w a X na) :
    Calls Tryz.prog 88 #[.slice a na cap, .int .i64 b] w fun e w' => ∃ t, e = .returned (.tuple #[.string t, .int .i64 0]) ∧ isTx b X t ∧ Below w.heap.size w w' := by
  refine Text_dig a na cap X b (32 * na) hb0 hb w h hca (by omega) (by omega) ?_ hS
  have h1 := hS.1
  rw [show BB ^ na = 2 ^ (32 * na) by rw [Nat.pow_mul]; rfl] at h1
  exact Nat.lt_of_lt_of_le h1 (Nat.pow_le_pow_left hb0 _)
end Go.Proofs.YtjbeagbkjmaeeaaGreatDoor

namespace Go.Proofs.YtjbeagbkjmaeeaaGreatDoor
open Go.RowKit
set_option linter.unusedVariables false

theorem tvr_dgt {b X D : Nat} (hb : 2 ≤ b) (hX : X < b ^ D) : ∀ k, k ≤ D → tvr b (fun j => dgt b X D j) 0 k = X / b ^ (D - k)
  | 0, _ => by rw [Nat.sub_zero, Nat.div_eq_of_lt hX]; rfl
  | k + 1, hk => by
    rw [tvr, tvr_dgt hb hX k (by omega), Nat.zero_add]
    unfold dgt
    rw [show D - 1 - k = D - (k + 1) by omega, show D - k = D - (k + 1) + 1 by omega, Nat.pow_succ, ← Nat.div_div_eq_div_mul]
    exact Nat.div_add_mod' _ _
theorem isTx.val {b X : Nat} {t : ByteArray} (hb0 : 2 ≤ b) (hb : b ≤ 16) (h : isTx b X t) : val b t = X := by
  unfold Proofs.YtjbeagbkjmaeeaaGreatDoor.val
  have e : tvr b (fun k => dval (byt t k)) 0 t.size = tvr b (fun j => dgt b X t.size j) 0 t.size := tvr_congr fun j hj => by
    show dval (byt t (0 + j)) = dgt b X t.size (0 + j)
    rw [Nat.zero_add, h.2.2.2 j hj]
    exact dval_dch (Nat.lt_of_lt_of_le (dgt_lt hb0) hb)
  rw [e, tvr_dgt hb0 h.2.1 t.size (Nat.le_refl _), Nat.sub_self, Nat.pow_zero, Nat.div_one]
theorem isTx.isT {b X : Nat} {t : ByteArray} (hb0 : 2 ≤ b) (hb : b ≤ 16) (h : isTx b X t) : isT b t := by
  refine ⟨h.1, fun hs => ?_, fun k hk => ?_⟩
  · rw [h.2.2.2 0 (by omega)]
    have h1 : b ^ (t.size - 1) ≤ X := h.2.2.1.resolve_left (by omega)
    have h2 : X / b ^ (t.size - 1) < b := by
      rw [Nat.div_lt_iff_lt_mul (Nat.pow_pos (by omega)), Nat.mul_comm, ← Nat.pow_succ, show (t.size - 1).succ = t.size by omega]; exact h.2.1
    have h3 : 0 < X / b ^ (t.size - 1) := Nat.div_pos h1 (Nat.pow_pos (by omega))
    have h4 : dgt b X t.size 0 = X / b ^ (t.size - 1) := by unfold dgt; rw [Nat.sub_zero, Nat.mod_eq_of_lt h2]
    intro e
    have := (dch_zero (Nat.lt_of_lt_of_le (dgt_lt hb0) hb)).1 e
    rw [h4] at this
    clear h1 h2 h4
    omega
  · rw [h.2.2.2 k hk, dval_dch (Nat.lt_of_lt_of_le (dgt_lt hb0) hb)]
    exact dgt_lt hb0
theorem isTx.size_le {b X n : Nat} {t : ByteArray} (hb0 : 2 ≤ b) (h : isTx b X t) (hX : X < BB ^ n) : t.size ≤ 32 * n + 1 := by
  rcases h.2.2.1 with h1 | h1
  · omega
  · have h2 : 2 ^ (t.size - 1) ≤ X := Nat.le_trans (Nat.pow_le_pow_left hb0 _) h1
    rw [BB_eq, show (4294967296 : Nat) = 2 ^ 32 by decide, ← Nat.pow_mul] at hX
    have h3 := (Nat.pow_lt_pow_iff_right (a := 2) (by decide)).1 (Nat.lt_of_le_of_lt h2 hX)
    clear h1 h2 hX
    omega
end Go.Proofs.YtjbeagbkjmaeeaaGreatDoor
