/-
  Layer 1's texts: the scale of a base.
-/
import Derived.Test.YtpifbbopcngdhaaGreatDoorWT1
import Derived.Deep.RegionHeld3
import Derived.Test.YtpifbbopcngdhaaGreatDoorWIm
namespace Go.Proofs.YtpifbbopcngdhaaGreatDoor
open Go.RowKit
set_option linter.unusedVariables false

theorem wrapU {x : Nat} (h : x < 18446744073709551616) : IntKind.u64.wrap (x : Int) = (x : Int) := by rw [IntKind.wrap_u64]; omega
set_option maxHeartbeats 2000000 in
theorem readLimb_any (p b n : Nat) (t : ByteArray) (w : World) (h : Digs w) (hb0 : 2 ≤ b) (hb : b ≤ 16) (hp : w.cell? ⟨p, 0, none⟩ = some (.int .i64 b)) (hn : b ^ n ≤ 4294967296) (ht : t.size ≤ n) (hv : ∀ k, k < t.size → dval (byt t k) < b) :
    Calls Tryz.prog 99 #[.pointer (some ⟨p, 0, none⟩), .string t] w fun e w' => ∃ a, e = .returned (.slice a (ln (val b t)) (ln (val b t))) ∧ New w w' a (val b t) (ln (val b t)) := by
  have HD := hide' (fun c w' (hc : c < 256) k => digitOf_any c b hc hb w' k)
  have HH := hide' h
  have HV := hide' hv
  have HN := hide' hn
  have hsz : t.size ≤ 9223372036854775807 := by
    have : n < 2 ^ n := Nat.lt_two_pow_self
    have h2 : 2 ^ n ≤ b ^ n := Nat.pow_le_pow_left hb0 n
    omega
  clear hv hn
  go_enter Tryz.func99, Tryz.ntmps99
  go_wp2_with fail
  go_loopw [5, 9] (fun v i wr => ∃ k : Nat, k ≤ t.size ∧ i = .int .i64 k ∧ v = .int .u64 (tvr b (fun j => dval (byt t j)) 0 k : Nat) ∧ Dr w wr) (fun _ i _ => t.size - (intOf i).toNat)
  case atStart => exact ⟨0, Nat.zero_le _, rfl, rfl, Dr.refl _⟩
  case round =>
    obtain ⟨k, hk, rfl, rfl, hd⟩ := hrel
    have hB := hd.below w.heap.size
    have hDw := HH.out.below hB
    have hp' := hB.cell (p := ⟨p, 0, none⟩) (World.block_lt_of_cell? w _ hp)
    rw [hp] at hp'
    by_cases hlt : k < t.size
    · have hki : ((k : Int) < (t.size : Int)) := by omega
      have eb := byt_of hlt
      have hvk := HV.out k hlt
      have hdo : dof (t[k]'hlt).toNat b = dval (byt t k) := by rw [← eb, dof_of hvk]
      have hD1 := HD.out (t[k]'hlt).toNat
      rw [hdo] at hD1
      have hD2 := hide' hD1
      clear hD1
      obtain ⟨V, hV⟩ : ∃ V, tvr b (fun j => dval (byt t j)) 0 k = V := ⟨_, rfl⟩
      rw [hV]
      have hVl : V < b ^ k := by rw [← hV]; exact tvr_lt fun j hj => by simpa using HV.out j (by omega)
      have hpk : b ^ (k + 1) ≤ 4294967296 := Nat.le_trans (Nat.pow_le_pow_right (by omega) (by omega)) HN.out
      rw [Nat.pow_succ] at hpk
      have hm : V * b < 4294967296 := by
        have : V * b < b ^ k * b := Nat.mul_lt_mul_of_pos_right hVl (by omega)
        omega
      have m1 : IntKind.u64.wrap ((V : Int) * (b : Int)) = ((V * b : Nat) : Int) := by rw [← Int.natCast_mul]; exact wrapU (by omega)
      have m2 : IntKind.u64.wrap (b : Int) = (b : Int) := wrapU (by omega)
      have m3 : IntKind.u64.wrap ((dval (byt t k) : Nat) : Int) = ((dval (byt t k) : Nat) : Int) := wrapU (by omega)
      have m4 : IntKind.u64.wrap (((V * b : Nat) : Int) + ((dval (byt t k) : Nat) : Int)) = ((V * b + dval (byt t k) : Nat) : Int) := by rw [← Int.natCast_add]; exact wrapU (by omega)
      go_wp2_with fail
      go_quiet ((go_at_call 98; exact Calls.quiet_of_same (hD2.out _ (by rw [← eb]; exact byt_lt t k) (by exact hDw))))
      go_wp2_with fail
      refine ⟨⟨k + 1, by omega, by go_num, ?_, hd.drewN nq⟩, by simp [intOf]; omega⟩
      rw [← eb, m3, ← Int.natCast_mul, m4, tvr, hV, Nat.zero_add]
    · have e : k = t.size := by omega
      subst e
      have hvl := val_lt (b := b) (s := t) HV.out
      have hpl : b ^ t.size ≤ 4294967296 := Nat.le_trans (Nat.pow_le_pow_right (by omega) ht) HN.out
      rw [show tvr b (fun j => dval (byt t j)) 0 t.size = val b t from rfl]
      have HO := hide' (fun w' => Of_any (val b t) w' (by omega))
      go_wp2_with fail
      refine (HO.out _).mono ?_
      rintro e w1 ⟨a1, rfl, h1⟩
      go_wp2
      go_ret
      exact ⟨a1, rfl, h1.back hB⟩
end Go.Proofs.YtpifbbopcngdhaaGreatDoor

namespace Go.Proofs.YtpifbbopcngdhaaGreatDoor
open Go.RowKit
set_option linter.unusedVariables false

/-- the k powers of a scale: b to the n times 2 to the i-th -/
def Pw (w : World) (ao : Option Addr) (b n k : Nat) : Prop := ∀ i, i < k → ∃ (g off : Nat) (a : Option Addr), ao = some ⟨g, off, none⟩ ∧ g < w.heap.size ∧ w.cell? ⟨g, off + i, none⟩ = some (.slice a (ln (b ^ (n * 2 ^ i))) (ln (b ^ (n * 2 ^ i)))) ∧ Seg w a (b ^ (n * 2 ^ i)) (ln (b ^ (n * 2 ^ i)))
theorem Pw.below {w w' : World} {ao : Option Addr} {b n k : Nat} (h : Pw w ao b n k) (hb : Below w.heap.size w w') : Pw w' ao b n k := fun i hi => by
  obtain ⟨g, off, a, e, hg, hc, hs⟩ := h i hi
  exact ⟨g, off, a, e, Nat.lt_of_lt_of_le hg hb.size, cellL hb hc, segL hb hs⟩
theorem shl_is {n m Q : Nat} (hQ : n * 2 ^ m = Q) (hq : Q ≤ 281474976710656) : wrap64 ((n : Int) * 2 ^ m) = (Q : Int) := by
  have e : (n : Int) * 2 ^ m = (Q : Int) := by
    rw [← hQ]
    push_cast
    rfl
  rw [e]
  clear hQ e
  unfold wrap64
  omega
set_option maxHeartbeats 4000000 in
theorem read_any (p b n k cap : Nat) (ao : Option Addr) (hb0 : 2 ≤ b) (hb : b ≤ 16) (hn : b ^ n ≤ 4294967296) (hn1 : 1 ≤ n) (hk0 : k ≤ 48) (hkc : k ≤ cap) (hk40 : n * 2 ^ k ≤ 281474976710656) : ∀ (m : Nat) (t : ByteArray) (w : World), m ≤ k → t.size ≤ 140737488355328 → Digs w → w.cell? ⟨p, 0, none⟩ = some (.int .i64 b) → w.cell? ⟨p, 1, none⟩ = some (.int .i64 n) → w.cell? ⟨p, 2, none⟩ = some (.slice ao k cap) → Pw w ao b n k → t.size ≤ n * 2 ^ m → (∀ j, j < t.size → dval (byt t j) < b) →
    Calls Tryz.prog 78 #[.pointer (some ⟨p, 0, none⟩), .string t, .int .i64 m] w fun e w' => ∃ a, e = .returned (.slice a (ln (val b t)) (ln (val b t))) ∧ New w w' a (val b t) (ln (val b t)) := by
  intro m
  induction m with
  | zero =>
    intro t w hmk h47 h q0 q1 q2 hP ht hv
    have HR := hide' (readLimb_any p b n t w h hb0 hb q0 hn (by simpa using ht) hv)
    clear hn hv
    go_enter Tryz.func78, Tryz.ntmps78
    go_wp2_with fail
    refine HR.out.mono ?_
    rintro e w1 ⟨a1, rfl, h1⟩
    go_wp2
    go_ret
    exact ⟨a1, rfl, h1⟩
  | succ m ih =>
    intro t w hmk h47 h q0 q1 q2 hP ht hv
    have IH := hide' ih
    have HV := hide' hv
    have HN := hide' hn
    have hm2 : n * 2 ^ m ≤ n * 2 ^ k := Nat.mul_le_mul_left n (Nat.pow_le_pow_right (by omega) (by omega))
    have hmm : t.size ≤ n * 2 ^ m + n * 2 ^ m := by rw [Nat.pow_succ] at ht; rw [← Nat.mul_assoc] at ht; omega
    obtain ⟨Q, hQ⟩ : ∃ Q, n * 2 ^ m = Q := ⟨_, rfl⟩
    rw [hQ] at hm2 hmm IH
    have hQ4 : Q ≤ 281474976710656 := Nat.le_trans hm2 hk40
    have hm64 : m ≤ 64 := by clear ht hk40 hn hv ih hm2 hmm hQ4 hQ; omega
    clear ht hm2 ih hv hn hk40
    have wm : wrap64 (m : Int) = (m : Int) := by clear hQ; unfold wrap64; omega
    have hsh : wrap64 ((n : Int) * 2 ^ m) = (Q : Int) := shl_is hQ hQ4
    have HQ := hide' hQ
    clear hQ
    by_cases hle : t.size ≤ Q
    · have wd : wrap64 ((t.size : Int) - (Q : Int)) = (t.size : Int) - (Q : Int) := by unfold wrap64; omega
      have hle2 : (t.size : Int) - (Q : Int) ≤ 0 := by omega
      have hle3 : (t.size : Int) ≤ (Q : Int) := by omega
      have HI := hide' (IH.out t w (by omega) h47 h q0 q1 q2 hP hle HV.out)
      go_enter Tryz.func78, Tryz.ntmps78
      go_wp2_with fail
      refine HI.out.mono ?_
      rintro e w1 ⟨a1, rfl, h1⟩
      go_wp2
      go_ret
      exact ⟨a1, rfl, h1⟩
    · obtain ⟨c, hc⟩ : ∃ c, t.size - Q = c := ⟨_, rfl⟩
      have wd : wrap64 ((t.size : Int) - (Q : Int)) = (c : Int) := by unfold wrap64; omega
      have hcI : ((t.size : Int) - (Q : Int)) = (c : Int) := by omega
      have hc0 : ¬ ((c : Int) ≤ 0) := by omega
      have hc4 : (0 : Int) < (c : Int) := by omega
      have hc1 : (0 : Int) ≤ (c : Int) := by omega
      have hc2 : (c : Int) ≤ (t.size : Int) := by omega
      have hc3 : c ≤ t.size := by omega
      go_enter Tryz.func78, Tryz.ntmps78
      go_wp2_with fail
      have s1 : (t.extract 0 c).size = c := by rw [ByteArray.size_extract]; omega
      have s2 : (t.extract c t.size).size = Q := by rw [ByteArray.size_extract]; omega
      have v1 : ∀ j, j < (t.extract 0 c).size → dval (byt (t.extract 0 c) j) < b := fun j hj => by
        rw [s1] at hj
        rw [byt_extract hc3 (by omega), Nat.zero_add]
        exact HV.out j (by omega)
      have v2 : ∀ j, j < (t.extract c t.size).size → dval (byt (t.extract c t.size) j) < b := fun j hj => by
        rw [s2] at hj
        rw [byt_extract (Nat.le_refl _) (by omega)]
        exact HV.out _ (by omega)
      have hval := val_cut (b := b) hc3
      rw [show t.size - c = Q by omega] at hval
      have I1 := hide' (fun w' h' k0 k1 k2 kP => IH.out (t.extract 0 c) w' (by omega) (by omega) h' k0 k1 k2 kP (by omega) v1)
      have I2 := hide' (fun w' h' k0 k1 k2 kP => IH.out (t.extract c t.size) w' (by omega) (by omega) h' k0 k1 k2 kP (by omega) v2)
      obtain ⟨A1, hA1⟩ : ∃ A, val b (t.extract 0 c) = A := ⟨_, rfl⟩
      obtain ⟨A2, hA2⟩ : ∃ A, val b (t.extract c t.size) = A := ⟨_, rfl⟩
      have hP0 := hP m (by omega)
      rw [HQ.out] at hP0
      have hbB : b ≤ BB := by rw [BB_eq]; omega
      have l2 : ln A2 ≤ Q / 8 + 1 := by
        have := val_lt (b := b) v2
        rw [s2, hA2] at this
        exact ln_le_of_lt (Nat.lt_trans this (lt8 hb))
      obtain ⟨P, hPe⟩ : ∃ P, b ^ Q = P := ⟨_, rfl⟩
      have l3 : ln P ≤ Q / 8 + 1 := by
        rw [← hPe]
        exact ln_le_of_lt (lt8 hb)
      have l1 : ln A1 ≤ c / 8 + 1 := by
        have := val_lt (b := b) v1
        rw [s1, hA1] at this
        exact ln_le_of_lt (Nat.lt_trans this (lt8 hb))
      have l1x : True := trivial
      rw [hA1] at I1 hval
      rw [hA2] at I2 hval
      rw [hPe] at hP0 hval
      have HVL := hide' hval
      clear v1 v2 s1 s2 hA1 hA2 IH l1x hPe HQ hval
      have l4 : ln (A1 * P) ≤ c / 8 + 1 + (Q / 8 + 1) := Nat.le_trans (ln_prod (ln_lt A1) (ln_lt P)) (by omega)
      obtain ⟨g, off, aP, rfl, hg, hcP, hsP⟩ := hP0
      have hBW : Below w.heap.size w w := Below.refl _ _
      have wm2 : IntKind.i64.wrap (m : Int) = (m : Int) := by rw [IntKind.wrap_i64]; omega
      replace hBW := hBW.drew
      go_region_held3 (fun w' => Below w.heap.size w w')
        (first | exact hBW | exact Below.trans (by assumption) (Below.mono b41 (Below.size (by assumption))))
        (first
          | (go_at_call 78; (fail_if_success clear b41); refine (I1.out _ (h.below hBW) (cellL hBW q0) (cellL hBW q1) (cellL hBW q2) (hP.below hBW)).mono ?_; rintro e w41 ⟨a41, rfl, h41⟩; have b41 := h41.below; replace h41 := h41.back hBW; replace hBW := hBW.trans (b41.mono hBW.size))
          | (go_at_call 78; (fail_if_success clear b42); refine (I2.out _ (h.below hBW) (cellL hBW q0) (cellL hBW q1) (cellL hBW q2) (hP.below hBW)).mono ?_; rintro e w42 ⟨a42, rfl, h42⟩; have b42 := h42.below; replace h42 := h42.back hBW; replace h41 := h41.later b42; replace hBW := hBW.trans (b42.mono hBW.size)))
      have f2 := cellL hBW q2
      have fP := cellL hBW hcP
      have fS := segL hBW hsP
      go_wp2_with fail
      refine (Mul_is a41 aP (ln A1) (ln A1) A1 (ln P) (ln P) P (A1 * P) _ (Nat.le_refl _) (by omega) h41.seg (Nat.le_refl _) (by omega) fS rfl).mono ?_
      rintro e w43 ⟨a43, rfl, h43⟩
      have b43 := h43.below
      replace h42 := h42.later b43
      replace h43 := h43.back hBW
      replace hBW := hBW.trans (b43.mono hBW.size)
      go_wp2_with fail
      refine (Add_is a43 a42 (ln (A1 * P)) (ln (A1 * P)) (A1 * P) (ln A2) (ln A2) A2 (val b t) _ (Nat.le_refl _) (by omega) h43.seg (Nat.le_refl _) (by omega) h42.seg HVL.out.symm).mono ?_
      rintro e w44 ⟨a44, rfl, h44⟩
      go_wp2
      go_ret
      exact ⟨a44, rfl, h44.back hBW⟩
end Go.Proofs.YtpifbbopcngdhaaGreatDoor

namespace Go.Proofs.YtpifbbopcngdhaaGreatDoor
open Go.RowKit
set_option linter.unusedVariables false

set_option maxHeartbeats 2000000 in
theorem scaleOf_any (b : Nat) (hb0 : 2 ≤ b) (hb : b ≤ 16) (w : World) : Calls Tryz.prog 61 #[.int .i64 b] w fun e w' => ∃ n a, e = .returned (.agg #[.int .i64 b, .int .i64 (n : Nat), .slice none 0 0, .slice a (ln (b ^ n)) (ln (b ^ n))]) ∧ New w w' a (b ^ n) (ln (b ^ n)) ∧ 1 ≤ n ∧ n ≤ 31 ∧ b ^ n < 4294967296 := by
  have HO := hide' (fun N w' (h : N < 18446744073709551616) => Of_any N w' h)
  have m0 : IntKind.u64.wrap (b : Int) = (b : Int) := wrapU (by omega)
  go_enter Tryz.func61, Tryz.ntmps61
  go_wp2_with fail
  obtain ⟨W, hW⟩ : ∃ W, (w.alloc (.cells #[.int .i64 0, .int .i64 0, .slice none 0 0, .slice none 0 0] 91)) = W := ⟨_, rfl⟩
  have r00 : W.cell? ⟨w.heap.size, 0, none⟩ = some (.int .i64 0) := by subst hW; go_simp
  have r01 : W.cell? ⟨w.heap.size, 1, none⟩ = some (.int .i64 0) := by subst hW; go_simp
  have r02 : W.cell? ⟨w.heap.size, 2, none⟩ = some (.slice none 0 0) := by subst hW; go_simp
  have r03 : W.cell? ⟨w.heap.size, 3, none⟩ = some (.slice none 0 0) := by subst hW; go_simp
  have hB : Below w.heap.size w W := by subst hW; exact ((Below.refl _ _).alloc (by (try simp only [World.size_alloc]); omega) _)
  have hR0 : Row W (w.heap.size) := by
    have := row_new (w) #[.int .i64 0, .int .i64 0, .slice none 0 0, .slice none 0 0] 91
    try simp only [World.size_alloc] at this
    subst hW; exact this
  have hz : W.heap.size = w.heap.size + 1 := by subst hW; simp only [World.size_alloc]
  rw [hW]
  clear hW
  have hBW : Below W.heap.size W W := Below.refl _ _
  go_loop [3, 4] (fun wd pw => ∃ k : Nat, 1 ≤ k ∧ wd = .int .i64 k ∧ pw = .int .u64 (b ^ k : Nat) ∧ b ^ k < 4294967296 ∧ k ≤ 31) (fun wd _ => 40 - (intOf wd).toNat)
  case atStart => exact ⟨1, Nat.le_refl _, rfl, by rw [Nat.pow_one], by rw [Nat.pow_one]; omega, by omega⟩
  case round =>
    obtain ⟨k, hk1, rfl, rfl, hlt, hk31⟩ := hrel
    obtain ⟨M, hM⟩ : ∃ M, b ^ k * b = M := ⟨_, rfl⟩
    have hM2 : M ≤ 4294967296 * 16 := by rw [← hM]; exact Nat.mul_le_mul (Nat.le_of_lt hlt) hb
    have hsucc : b ^ (k + 1) = M := by rw [Nat.pow_succ, hM]
    have hkk : M < 4294967296 → k + 1 ≤ 31 := fun h => by
      have h1 : 2 ^ (k + 1) ≤ b ^ (k + 1) := Nat.pow_le_pow_left hb0 _
      rw [hsucc] at h1
      have h2 : 2 ^ (k + 1) < 2 ^ 32 := Nat.lt_of_le_of_lt h1 h
      have := (Nat.pow_lt_pow_iff_right (a := 2) (by decide)).1 h2
      omega
    have HS := hide' hsucc
    have HK := hide' hkk
    obtain ⟨P, hP⟩ : ∃ P, b ^ k = P := ⟨_, rfl⟩
    rw [hP] at hM hlt ⊢
    have m1 : IntKind.u64.wrap ((P : Int) * (b : Int)) = (M : Int) := by rw [← Int.natCast_mul, hM]; clear hP hM HS hsucc hkk; exact wrapU (by omega)
    have HP := hide' hP
    clear hP hM hsucc hkk
    by_cases hc : M < 4294967296
    · have hx : ((M : Int) / 4294967296 == 0) = true := by rw [beq_iff_eq]; omega
      go_wp2_with fail
      exact ⟨⟨k + 1, by omega, by go_num, by rw [HS.out], by rw [HS.out]; exact hc, HK.out hc⟩, by simp [intOf]; omega⟩
    · have hx : ((M : Int) / 4294967296 == 0) = false := by rw [beq_eq_false_iff_ne]; omega
      go_wp2_with fail
      refine (HO.out P _ (by omega)).mono ?_
      rintro e w1 ⟨a1, rfl, h1⟩
      have b1 := h1.below
      replace h1 := h1.back hBW
      replace hBW := hBW.trans (b1.mono hBW.size)
      replace r00 := below_cell b1 r00
      replace r01 := below_cell b1 r01
      replace r02 := below_cell b1 r02
      replace r03 := below_cell b1 r03
      replace hR0 := below_row b1 hR0
      have fz0 := fun o => hR0.frozen o
      go_wp2
      all_goals refine bodyPost_ret (v := .agg #[.int .i64 b, .int .i64 k, .slice none 0 0, .slice a1 (ln P) (ln P)]) (by rw [results_cell rfl]; go_simp) rfl ?_
      all_goals exact ⟨k, a1, by rw [HP.out], by rw [HP.out]; exact h1.mid hB ((((((Mid.refl _ _ _).set _ _ (by omega) (by omega) _).set _ _ (by omega) (by omega) _).set _ _ (by omega) (by omega) _).set _ _ (by omega) (by omega) _)), hk1, hk31, by rw [HP.out]; exact hlt⟩
end Go.Proofs.YtpifbbopcngdhaaGreatDoor
