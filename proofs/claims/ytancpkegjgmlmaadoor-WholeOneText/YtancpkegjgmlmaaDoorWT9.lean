/-
  Layer 1's texts: the digits of a number are written, by halves.
-/
import Derived.Test.YtancpkegjgmlmaaDoorWT8
import Derived.Test.YtancpkegjgmlmaaDoorW11
namespace Go.Proofs.YtancpkegjgmlmaaDoor
open Go.RowKit
set_option linter.unusedVariables false

theorem Seg.wr0 {w w' : World} {a : Option Addr} {X n b lo hi : Nat} (h : Seg w a X n) (k : Wr b lo hi w w') (hne : 0 < n → ∀ o, a ≠ some ⟨b, o, none⟩) : Seg w' a X n := by
  by_cases hn : 0 < n
  · exact h.wr k (hne hn)
  · obtain rfl : n = 0 := by omega
    exact ⟨h.1, fun h => absurd h (by omega)⟩
theorem New.off {w w' : World} {a : Option Addr} {X n g : Nat} (h : New w w' a X n) (hg : g < w.heap.size) : 0 < n → ∀ o, a ≠ some ⟨g, o, none⟩ := fun hn o he => by
  obtain ⟨b, off, e, hb, _⟩ := h.fresh hn
  rw [e] at he
  simp at he
  try omega
theorem dgt_high {b X Q j : Nat} (hj : j < Q) : dgt b (X / b ^ Q) Q j = dgt b X (Q + Q) j := by
  unfold dgt
  rw [Nat.div_div_eq_div_mul, ← Nat.pow_add, show Q + (Q - 1 - j) = Q + Q - 1 - j by omega]
theorem dgt_low {b X Q j : Nat} (hj : j < Q) : dgt b (X % b ^ Q) Q j = dgt b X (Q + Q) (Q + j) := by
  unfold dgt
  rw [show Q + Q - 1 - (Q + j) = Q - 1 - j by omega]
  have e : b ^ Q = b ^ (Q - 1 - j) * b ^ (j + 1) := by rw [← Nat.pow_add, show Q - 1 - j + (j + 1) = Q by omega]
  rw [e, Nat.mod_mul_right_div_self, Nat.mod_mod_of_dvd _ ⟨b ^ j, by rw [Nat.pow_succ, Nat.mul_comm]⟩]
theorem halves {n m L Q : Nat} (hL : n * 2 ^ (m + 1) = L) (hQ : n * 2 ^ m = Q) : L = Q + Q := by rw [← hL, ← hQ, Nat.pow_succ, ← Nat.mul_assoc, Nat.mul_two]
theorem half_le {n m k Q N : Nat} (hQ : n * 2 ^ m = Q) (hmk : m ≤ k) (h : n * 2 ^ k ≤ N) : Q ≤ N := by
  rw [← hQ]
  exact Nat.le_trans (Nat.mul_le_mul_left n (Nat.pow_le_pow_right (by decide) hmk)) h
theorem half_lt {b X L Q : Nat} (hb : 0 < b) (hLQ : L = Q + Q) (hX : X < b ^ L) : X / b ^ Q < b ^ Q ∧ X % b ^ Q < b ^ Q := by
  refine ⟨?_, Nat.mod_lt _ (Nat.pow_pos hb)⟩
  rw [Nat.div_lt_iff_lt_mul (Nat.pow_pos hb), ← Nat.pow_add, ← hLQ]
  exact hX
theorem ln_dig {b X L : Nat} (hb : b ≤ 16) (hX : X < b ^ L) : ln X ≤ L := ln_le_of_lt (Nat.lt_of_lt_of_le hX (Nat.pow_le_pow_left (show b ≤ BB by rw [BB_eq]; omega) L))
set_option maxHeartbeats 1000000 in
theorem write_step (p g off L co X m k cap g0 off0 P Q : Nat) (ax aP : Option Addr) (w : World) (S1 : World → World → Option Addr → Prop) (S2 : World → Prop) (f2 : w.cell? ⟨p, 2, none⟩ = some (.slice (some ⟨g0, off0, none⟩) k cap)) (fP : w.cell? ⟨g0, off0 + m, none⟩ = some (.slice aP (ln P) (ln P))) (wm : wrap64 (m : Int) = (m : Int)) (hm : m < k) (hm2 : (m : Int) < (k : Int))
    (hq2 : ((L : Int) / 2) = (Q : Int)) (hq3 : (Q : Int) ≤ (L : Int)) (hq4 : (0 : Int) ≤ (Q : Int)) (hq5 : (L : Int) ≤ (co : Int)) (hq6 : (Q : Int) ≤ (co : Int)) (wq : wrap64 (Q : Int) = (Q : Int)) (hq7 : (Q : Int) < (co : Int)) (hq8 : Q < co) (hq9 : ¬ (co - Q = 0)) (hqa : ¬ (co ≤ Q)) (hqb : ¬ (Q = co)) (hqc : ¬ ((Q : Int) = (co : Int))) (eL : L - Q = Q)
    (HD : Hid (Calls Tryd.prog 57 #[.slice ax (ln X) (ln X), .slice aP (ln P) (ln P)] w fun e w' => ∃ aq ar, e = .returned (.tuple #[.slice aq (ln (X / P)) (ln (X / P)), .slice ar (ln (X % P)) (ln (X % P)), .int .i64 0]) ∧ New w w' aq (X / P) (ln (X / P)) ∧ New w w' ar (X % P) (ln (X % P))))
    (I1 : Hid (∀ aq ar w1, New w w1 aq (X / P) (ln (X / P)) → New w w1 ar (X % P) (ln (X % P)) → Calls Tryd.prog 42 #[.pointer (some ⟨p, 0, none⟩), .slice (some ⟨g, off, none⟩) Q co, .slice aq (ln (X / P)) (ln (X / P)), .int .i64 m] w1 fun e w2 => e = .returned (.tuple #[]) ∧ S1 w1 w2 ar))
    (I2 : Hid (∀ ar w1 w2, S1 w1 w2 ar → Calls Tryd.prog 42 #[.pointer (some ⟨p, 0, none⟩), .slice (some ⟨g, off + Q, none⟩) Q (co - Q), .slice ar (ln (X % P)) (ln (X % P)), .int .i64 m] w2 fun e w3 => e = .returned (.tuple #[]) ∧ S2 w3)) :
    Calls Tryd.prog 42 #[.pointer (some ⟨p, 0, none⟩), .slice (some ⟨g, off, none⟩) L co, .slice ax (ln X) (ln X), .int .i64 ((m + 1 : Nat) : Int)] w fun e w3 => e = .returned (.tuple #[]) ∧ S2 w3 := by
  obtain ⟨D, hDe⟩ : ∃ D, X / P = D := ⟨_, rfl⟩
  obtain ⟨M, hMe⟩ : ∃ M, X % P = M := ⟨_, rfl⟩
  rw [hDe, hMe] at HD I1
  rw [hMe] at I2
  clear hDe hMe
  go_enter Tryd.func42, Tryd.ntmps42
  go_wp2_with fail
  refine HD.out.mono ?_
  rintro e w1 ⟨aq, ar, rfl, h1, h2⟩
  have J1 := hide' (I1.out aq ar w1 h1 h2)
  clear h1 h2
  go_wp2_with fail
  refine J1.out.mono ?_
  rintro e w2 ⟨rfl, hs1⟩
  have J2 := hide' (I2.out ar w1 w2 hs1)
  clear hs1
  go_wp2_with fail
  refine J2.out.mono ?_
  rintro e w3 ⟨rfl, hs2⟩
  go_wp2
  go_end0
  exact ⟨rfl, hs2⟩
set_option maxHeartbeats 4000000 in
theorem write_any (p b n k cap g : Nat) (ao : Option Addr) (w0 : World) (hb0 : 2 ≤ b) (hb : b ≤ 16) (hn : b ^ n < 4294967296) (hn1 : 1 ≤ n) (hkc : k ≤ cap) (hk40 : k ≤ 48) (hnk : n * 2 ^ k ≤ 281474976710656) (hD : Digs w0) (c0 : w0.cell? ⟨p, 0, none⟩ = some (.int .i64 b)) (c2 : w0.cell? ⟨p, 2, none⟩ = some (.slice ao k cap)) (hP : Pw w0 ao b n k) (hg : w0.heap.size ≤ g) :
    ∀ (m off L co X : Nat) (ax : Option Addr) (w : World), m ≤ k → n * 2 ^ m = L → L ≤ co → Below w0.heap.size w0 w → Row w g → (∀ j, j < L → ∃ c, w.cell? ⟨g, off + j, none⟩ = some c) → Seg w ax X (ln X) → (0 < ln X → ∀ o, ax ≠ some ⟨g, o, none⟩) → X < b ^ L →
    Calls Tryd.prog 42 #[.pointer (some ⟨p, 0, none⟩), .slice (some ⟨g, off, none⟩) L co, .slice ax (ln X) (ln X), .int .i64 m] w fun e w' => e = .returned (.tuple #[]) ∧ Wr g off (off + L) w w' ∧ ∀ j, j < L → w'.cell? ⟨g, off + j, none⟩ = some (.int .u8 (dch (dgt b X L j) : Nat)) := by
  have hplt := World.block_lt_of_cell? w0 _ c0
  have hdlt := World.block_lt_of_cell? w0 _ (hD 0 (by omega))
  simp only at hplt hdlt
  have HN := hide' hn
  have HNK := hide' hnk
  clear hn hnk
  intro m
  induction m with
  | zero =>
    intro off L co X ax w hmk hL hLc hbel hR hc hS hax hX
    rw [Nat.pow_zero, Nat.mul_one] at hL
    subst hL
    have hX32 : X < 4294967296 := Nat.lt_trans hX HN.out
    have hl1 : ln X ≤ 2 := ln_le_of_lt (by rw [BB2]; omega)
    have hnk2 : n ≤ 281474976710656 := Nat.le_trans (Nat.le_mul_of_pos_right _ (Nat.pow_pos (by omega))) HNK.out
    have H1 := hide' (word_any ax (ln X) (ln X) X w hl1 hS)
    have H2 := hide' (writeLimb_any p g off n co X b w (hD.below hbel) hb0 hb (cellL hbel c0) (by omega) hnk2 hR (by omega) (by omega) hc)
    clear hc hX
    go_enter Tryd.func42, Tryd.ntmps42
    go_wp2_with fail
    refine H1.out.mono ?_
    rintro e w1 ⟨rfl, rfl⟩
    go_wp2_with fail
    refine H2.out.mono ?_
    rintro e w2 ⟨rfl, hw, hcs⟩
    go_wp2
    refine bodyPost_ret (results_none rfl _ _ _) rfl ?_
    exact ⟨rfl, hw, hcs⟩
  | succ m ih =>
    intro off L co X ax w hmk hL hLc hbel hR hc hS hax hX
    obtain ⟨Q, hQ⟩ : ∃ Q, n * 2 ^ m = Q := ⟨_, rfl⟩
    have hmk' : m ≤ k := Nat.le_of_succ_le hmk
    have hLQ := halves hL hQ
    have hQpos : 0 < Q := by rw [← hQ]; exact Nat.mul_pos hn1 (Nat.pow_pos (by decide))
    have hQ4 := half_le hQ hmk' HNK.out
    have hP0 := hP m hmk
    rw [hQ] at hP0
    have hb1 : 0 < b := Nat.lt_of_lt_of_le (by decide) hb0
    obtain ⟨hXQ, hXm⟩ := half_lt hb1 hLQ hX
    have hL8 : L ≤ 281474976710656 := by rw [← hL]; exact Nat.le_trans (Nat.mul_le_mul_left n (Nat.pow_le_pow_right (by omega) hmk)) HNK.out
    have hXl : ln X ≤ L / 8 + 1 := ln_le_of_lt (Nat.lt_trans hX (lt8 hb))
    have hPl : ln (b ^ Q) ≤ Q / 8 + 1 := ln_le_of_lt (lt8 hb)
    have hP1 : b ^ Q ≠ 0 := Nat.pos_iff_ne_zero.1 (Nat.pow_pos hb1)
    have HG1 : ∀ j, j < Q → dgt b (X / b ^ Q) Q j = dgt b X L j := fun j hj => by rw [hLQ]; exact dgt_high hj
    have HG2 : ∀ j, j < Q → dgt b (X % b ^ Q) Q j = dgt b X L (Q + j) := fun j hj => by rw [hLQ]; exact dgt_low hj
    have IH0 : ∀ off co X ax w, Q ≤ co → Below w0.heap.size w0 w → Row w g → (∀ j, j < Q → ∃ c, w.cell? ⟨g, off + j, none⟩ = some c) → Seg w ax X (ln X) → (0 < ln X → ∀ o, ax ≠ some ⟨g, o, none⟩) → X < b ^ Q → _ := fun off co X ax w k1 k2 k3 k4 k5 k6 k7 => ih off Q co X ax w hmk' hQ k1 k2 k3 k4 k5 k6 k7
    obtain ⟨P, hPe⟩ : ∃ P, b ^ Q = P := ⟨_, rfl⟩
    rw [hPe] at hP0 hXQ hXm hPl hP1 HG1 HG2 IH0
    have IH := hide' IH0
    clear ih IH0 hL hQ hX hPe
    obtain ⟨g0, off0, aP, rfl, hg0, hcP, hsP⟩ := hP0
    have hglt := hR.lt
    have f2 := cellL hbel c2
    have fP := cellL hbel hcP
    have fS := segL hbel hsP
    have HXQ := hide' hXQ
    have HXM := hide' hXm
    have GG1 := hide' HG1
    have GG2 := hide' HG2
    clear hXQ hXm HG1 HG2
    have HDv := hide' (Div_any ax aP (ln X) (ln X) X (ln P) (ln P) P w (Nat.le_refl _) (by omega) hS (Nat.le_refl _) (by omega) fS hP1)
    have I1 : ∀ aq ar w1, New w w1 aq (X / P) (ln (X / P)) → New w w1 ar (X % P) (ln (X % P)) → Calls Tryd.prog 42 #[.pointer (some ⟨p, 0, none⟩), .slice (some ⟨g, off, none⟩) Q co, .slice aq (ln (X / P)) (ln (X / P)), .int .i64 m] w1 fun e w2 => e = .returned (.tuple #[]) ∧ (Below w.heap.size w w1 ∧ New w w1 ar (X % P) (ln (X % P)) ∧ Wr g off (off + Q) w1 w2 ∧ ∀ j, j < Q → w2.cell? ⟨g, off + j, none⟩ = some (.int .u8 (dch (dgt b (X / P) Q j) : Nat))) := fun aq ar w1 h1 h2 =>
      (IH.out off co (X / P) aq w1 (by omega) (hbel.trans (h1.below.mono hbel.size)) (below_row h1.below hR) (fun j hj => by obtain ⟨c, hcc⟩ := hc j (by omega); exact ⟨c, cellL h1.below hcc⟩) h1.seg (h1.off hglt) HXQ.out).mono fun e w2 ⟨e1, e2, e3⟩ => ⟨e1, h1.below, h2, e2, e3⟩
    have I2 : ∀ ar w1 w2, (Below w.heap.size w w1 ∧ New w w1 ar (X % P) (ln (X % P)) ∧ Wr g off (off + Q) w1 w2 ∧ ∀ j, j < Q → w2.cell? ⟨g, off + j, none⟩ = some (.int .u8 (dch (dgt b (X / P) Q j) : Nat))) → Calls Tryd.prog 42 #[.pointer (some ⟨p, 0, none⟩), .slice (some ⟨g, off + Q, none⟩) Q (co - Q), .slice ar (ln (X % P)) (ln (X % P)), .int .i64 m] w2 fun e w3 => e = .returned (.tuple #[]) ∧ (Wr g off (off + L) w w3 ∧ ∀ j, j < L → w3.cell? ⟨g, off + j, none⟩ = some (.int .u8 (dch (dgt b X L j) : Nat))) := fun ar w1 w2 ⟨b1, h2, hw2, hc2⟩ => by
      have bel1 := hbel.trans (b1.mono hbel.size)
      refine (IH.out (off + Q) (co - Q) (X % P) ar w2 (by omega) (bel1.trans (hw2.below hg bel1.size)) (hw2.row (below_row b1 hR)) (fun j hj => ?_) (h2.seg.wr0 hw2 (h2.off hglt)) (h2.off hglt) HXM.out).mono fun e w3 ⟨e1, e2, e3⟩ => ⟨e1, ?_, fun j hj => ?_⟩
      · obtain ⟨c, hcc⟩ := hc (Q + j) (by omega)
        exact ⟨c, by rw [hw2.cell (off + Q + j) (by omega), Nat.add_assoc]; exact cellL b1 hcc⟩
      · exact (Wr.of_below b1 hglt).trans ((hw2.mono (Nat.le_refl _) (by omega)).trans (e2.mono (by omega) (by omega)))
      · by_cases hjQ : j < Q
        · rw [e2.cell (off + j) (by omega), hc2 j hjQ, GG1.out j hjQ]
        · have := e3 (j - Q) (by omega)
          rw [GG2.out (j - Q) (by omega), show off + Q + (j - Q) = off + j by omega, show Q + (j - Q) = j by omega] at this
          exact this
    have hQ1 : 0 < Q := hQpos
    exact write_step p g off L co X m k cap g0 off0 P Q ax aP w _ _ f2 fP (by unfold wrap64; omega) (by omega) (by omega) (by omega) (by omega) (by omega) (by omega) (by omega) (by unfold wrap64; omega) (by omega) (by omega) (by omega) (by omega) (by omega) (by omega) (by omega) HDv (hide' I1) (hide' I2)
end Go.Proofs.YtancpkegjgmlmaaDoor
