/-
  Layer 1's texts: the number of a text, by halves.
-/
import Derived.Test.YtancpkegjgmlmaaDoorWT2
import Derived.Deep.RegionHeld3
namespace Go.Proofs.YtancpkegjgmlmaaDoor
open Go.RowKit
set_option linter.unusedVariables false

/-- the k powers of a scale: b to the n times 2 to the i-th -/
def Pw (w : World) (ao : Option Addr) (b n k : Nat) : Prop := ∀ i, i < k → ∃ (g off : Nat) (a : Option Addr), ao = some ⟨g, off, none⟩ ∧ g < w.heap.size ∧ w.cell? ⟨g, off + i, none⟩ = some (.slice a (ln (b ^ (n * 2 ^ i))) (ln (b ^ (n * 2 ^ i)))) ∧ Seg w a (b ^ (n * 2 ^ i)) (ln (b ^ (n * 2 ^ i)))
theorem Pw.below {w w' : World} {ao : Option Addr} {b n k : Nat} (h : Pw w ao b n k) (hb : Below w.heap.size w w') : Pw w' ao b n k := fun i hi => by
  obtain ⟨g, off, a, e, hg, hc, hs⟩ := h i hi
  exact ⟨g, off, a, e, Nat.lt_of_lt_of_le hg hb.size, cellL hb hc, segL hb hs⟩
theorem shl_is {n m Q : Nat} (hQ : n * 2 ^ m = Q) (hq : Q ≤ 281474976710656) : wrap64 ((n : Int) * 2 ^ m) = (Q : Int) := by
  have e : (n : Int) * 2 ^ m = (Q : Int) := by
    rw [← hQ]
    push_cast
    rfl
  rw [e]
  clear hQ e
  unfold wrap64
  omega
set_option maxHeartbeats 4000000 in
theorem read_any (p b n k cap : Nat) (ao : Option Addr) (hb0 : 2 ≤ b) (hb : b ≤ 16) (hn : b ^ n ≤ 4294967296) (hn1 : 1 ≤ n) (hk0 : k ≤ 48) (hkc : k ≤ cap) (hk40 : n * 2 ^ k ≤ 281474976710656) : ∀ (m : Nat) (t : ByteArray) (w : World), m ≤ k → t.size ≤ 140737488355328 → Digs w → w.cell? ⟨p, 0, none⟩ = some (.int .i64 b) → w.cell? ⟨p, 1, none⟩ = some (.int .i64 n) → w.cell? ⟨p, 2, none⟩ = some (.slice ao k cap) → Pw w ao b n k → t.size ≤ n * 2 ^ m → (∀ j, j < t.size → dval (byt t j) < b) →
    Calls Tryd.prog 36 #[.pointer (some ⟨p, 0, none⟩), .string t, .int .i64 m] w fun e w' => ∃ a, e = .returned (.slice a (ln (val b t)) (ln (val b t))) ∧ New w w' a (val b t) (ln (val b t)) := by
  intro m
  induction m with
  | zero =>
    intro t w hmk h47 h q0 q1 q2 hP ht hv
    have HR := hide' (readLimb_any p b n t w h hb0 hb q0 hn (by simpa using ht) hv)
    clear hn hv
    go_enter Tryd.func36, Tryd.ntmps36
    go_wp2_with fail
    refine HR.out.mono ?_
    rintro e w1 ⟨a1, rfl, h1⟩
    go_wp2
    go_ret
    exact ⟨a1, rfl, h1⟩
  | succ m ih =>
    intro t w hmk h47 h q0 q1 q2 hP ht hv
    have IH := hide' ih
    have HV := hide' hv
    have HN := hide' hn
    have hm2 : n * 2 ^ m ≤ n * 2 ^ k := Nat.mul_le_mul_left n (Nat.pow_le_pow_right (by omega) (by omega))
    have hmm : t.size ≤ n * 2 ^ m + n * 2 ^ m := by rw [Nat.pow_succ] at ht; rw [← Nat.mul_assoc] at ht; omega
    obtain ⟨Q, hQ⟩ : ∃ Q, n * 2 ^ m = Q := ⟨_, rfl⟩
    rw [hQ] at hm2 hmm IH
    have hQ4 : Q ≤ 281474976710656 := Nat.le_trans hm2 hk40
    have hm64 : m ≤ 64 := by clear ht hk40 hn hv ih hm2 hmm hQ4 hQ; omega
    clear ht hm2 ih hv hn hk40
    have wm : wrap64 (m : Int) = (m : Int) := by clear hQ; unfold wrap64; omega
    have hsh : wrap64 ((n : Int) * 2 ^ m) = (Q : Int) := shl_is hQ hQ4
    have HQ := hide' hQ
    clear hQ
    by_cases hle : t.size ≤ Q
    · have wd : wrap64 ((t.size : Int) - (Q : Int)) = (t.size : Int) - (Q : Int) := by unfold wrap64; omega
      have hle2 : (t.size : Int) - (Q : Int) ≤ 0 := by omega
      have hle3 : (t.size : Int) ≤ (Q : Int) := by omega
      have HI := hide' (IH.out t w (by omega) h47 h q0 q1 q2 hP hle HV.out)
      go_enter Tryd.func36, Tryd.ntmps36
      go_wp2_with fail
      refine HI.out.mono ?_
      rintro e w1 ⟨a1, rfl, h1⟩
      go_wp2
      go_ret
      exact ⟨a1, rfl, h1⟩
    · obtain ⟨c, hc⟩ : ∃ c, t.size - Q = c := ⟨_, rfl⟩
      have wd : wrap64 ((t.size : Int) - (Q : Int)) = (c : Int) := by unfold wrap64; omega
      have hcI : ((t.size : Int) - (Q : Int)) = (c : Int) := by omega
      have hc0 : ¬ ((c : Int) ≤ 0) := by omega
      have hc4 : (0 : Int) < (c : Int) := by omega
      have hc1 : (0 : Int) ≤ (c : Int) := by omega
      have hc2 : (c : Int) ≤ (t.size : Int) := by omega
      have hc3 : c ≤ t.size := by omega
      go_enter Tryd.func36, Tryd.ntmps36
      go_wp2_with fail
      have s1 : (t.extract 0 c).size = c := by rw [ByteArray.size_extract]; omega
      have s2 : (t.extract c t.size).size = Q := by rw [ByteArray.size_extract]; omega
      have v1 : ∀ j, j < (t.extract 0 c).size → dval (byt (t.extract 0 c) j) < b := fun j hj => by
        rw [s1] at hj
        rw [byt_extract hc3 (by omega), Nat.zero_add]
        exact HV.out j (by omega)
      have v2 : ∀ j, j < (t.extract c t.size).size → dval (byt (t.extract c t.size) j) < b := fun j hj => by
        rw [s2] at hj
        rw [byt_extract (Nat.le_refl _) (by omega)]
        exact HV.out _ (by omega)
      have hval := val_cut (b := b) hc3
      rw [show t.size - c = Q by omega] at hval
      have I1 := hide' (fun w' h' k0 k1 k2 kP => IH.out (t.extract 0 c) w' (by omega) (by omega) h' k0 k1 k2 kP (by omega) v1)
      have I2 := hide' (fun w' h' k0 k1 k2 kP => IH.out (t.extract c t.size) w' (by omega) (by omega) h' k0 k1 k2 kP (by omega) v2)
      obtain ⟨A1, hA1⟩ : ∃ A, val b (t.extract 0 c) = A := ⟨_, rfl⟩
      obtain ⟨A2, hA2⟩ : ∃ A, val b (t.extract c t.size) = A := ⟨_, rfl⟩
      have hP0 := hP m (by omega)
      rw [HQ.out] at hP0
      have hbB : b ≤ BB := by rw [BB_eq]; omega
      have l2 : ln A2 ≤ Q / 8 + 1 := by
        have := val_lt (b := b) v2
        rw [s2, hA2] at this
        exact ln_le_of_lt (Nat.lt_trans this (lt8 hb))
      obtain ⟨P, hPe⟩ : ∃ P, b ^ Q = P := ⟨_, rfl⟩
      have l3 : ln P ≤ Q / 8 + 1 := by
        rw [← hPe]
        exact ln_le_of_lt (lt8 hb)
      have l1 : ln A1 ≤ c / 8 + 1 := by
        have := val_lt (b := b) v1
        rw [s1, hA1] at this
        exact ln_le_of_lt (Nat.lt_trans this (lt8 hb))
      have l1x : True := trivial
      rw [hA1] at I1 hval
      rw [hA2] at I2 hval
      rw [hPe] at hP0 hval
      have HVL := hide' hval
      clear v1 v2 s1 s2 hA1 hA2 IH l1x hPe HQ hval
      have l4 : ln (A1 * P) ≤ c / 8 + 1 + (Q / 8 + 1) := Nat.le_trans (ln_prod (ln_lt A1) (ln_lt P)) (by omega)
      obtain ⟨g, off, aP, rfl, hg, hcP, hsP⟩ := hP0
      have hBW : Below w.heap.size w w := Below.refl _ _
      have wm2 : IntKind.i64.wrap (m : Int) = (m : Int) := by rw [IntKind.wrap_i64]; omega
      replace hBW := hBW.drew
      go_region_held3 (fun w' => Below w.heap.size w w')
        (first | exact hBW | exact Below.trans (by assumption) (Below.mono b41 (Below.size (by assumption))))
        (first
          | (go_at_call 36; (fail_if_success clear b41); refine (I1.out _ (h.below hBW) (cellL hBW q0) (cellL hBW q1) (cellL hBW q2) (hP.below hBW)).mono ?_; rintro e w41 ⟨a41, rfl, h41⟩; have b41 := h41.below; replace h41 := h41.back hBW; replace hBW := hBW.trans (b41.mono hBW.size))
          | (go_at_call 36; (fail_if_success clear b42); refine (I2.out _ (h.below hBW) (cellL hBW q0) (cellL hBW q1) (cellL hBW q2) (hP.below hBW)).mono ?_; rintro e w42 ⟨a42, rfl, h42⟩; have b42 := h42.below; replace h42 := h42.back hBW; replace h41 := h41.later b42; replace hBW := hBW.trans (b42.mono hBW.size)))
      have f2 := cellL hBW q2
      have fP := cellL hBW hcP
      have fS := segL hBW hsP
      go_wp2_with fail
      refine (Mul_is a41 aP (ln A1) (ln A1) A1 (ln P) (ln P) P (A1 * P) _ (Nat.le_refl _) (by omega) h41.seg (Nat.le_refl _) (by omega) fS rfl).mono ?_
      rintro e w43 ⟨a43, rfl, h43⟩
      have b43 := h43.below
      replace h42 := h42.later b43
      replace h43 := h43.back hBW
      replace hBW := hBW.trans (b43.mono hBW.size)
      go_wp2_with fail
      refine (Add_is a43 a42 (ln (A1 * P)) (ln (A1 * P)) (A1 * P) (ln A2) (ln A2) A2 (val b t) _ (Nat.le_refl _) (by omega) h43.seg (Nat.le_refl _) (by omega) h42.seg HVL.out.symm).mono ?_
      rintro e w44 ⟨a44, rfl, h44⟩
      go_wp2
      go_ret
      exact ⟨a44, rfl, h44.back hBW⟩
end Go.Proofs.YtancpkegjgmlmaaDoor
