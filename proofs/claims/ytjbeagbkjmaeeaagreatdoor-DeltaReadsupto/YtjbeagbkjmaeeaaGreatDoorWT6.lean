/-
  Layer 1's texts: Parse.
-/
import Derived.Test.YtjbeagbkjmaeeaaGreatDoorWT1
import Derived.Deep.RegionHeld3
import Derived.Test.YtjbeagbkjmaeeaaGreatDoorWIm
import Derived.Deep.RegionLaw
import Derived.Deep.AppendLies
namespace Go.Proofs.YtjbeagbkjmaeeaaGreatDoor
open Go.RowKit
set_option linter.unusedVariables false

theorem wrapU {x : Nat} (h : x < 18446744073709551616) : IntKind.u64.wrap (x : Int) = (x : Int) := by rw [IntKind.wrap_u64]; omega
set_option maxHeartbeats 2000000 in
theorem readLimb_any (p b n : Nat) (t : ByteArray) (w : World) (h : Digs w) (hb0 : 2 ≤ b) (hb : b ≤ 16) (hp : w.cell? ⟨p, 0, none⟩ = some (.int .i64 b)) (hn : b ^ n ≤ 4294967296) (ht : t.size ≤ n) (hv : ∀ k, k < t.size → dval (byt t k) < b) :
    Calls Tryz.prog 124 #[.pointer (some ⟨p, 0, none⟩), .string t] w fun e w' => ∃ a, e = .returned (.slice a (ln (val b t)) (ln (val b t))) ∧ New w w' a (val b t) (ln (val b t)) := by
  have HD := hide' (fun c w' (hc : c < 256) k => digitOf_any c b hc hb w' k)
  have HH := hide' h
  have HV := hide' hv
  have HN := hide' hn
  have hsz : t.size ≤ 9223372036854775807 := by
    have : n < 2 ^ n := Nat.lt_two_pow_self
    have h2 : 2 ^ n ≤ b ^ n := Nat.pow_le_pow_left hb0 n
    omega
  clear hv hn
  go_enter Tryz.func124, Tryz.ntmps124
  go_wp2_with fail
  go_loopw [5, 9] (fun v i wr => ∃ k : Nat, k ≤ t.size ∧ i = .int .i64 k ∧ v = .int .u64 (tvr b (fun j => dval (byt t j)) 0 k : Nat) ∧ Dr w wr) (fun _ i _ => t.size - (intOf i).toNat)
  case atStart => exact ⟨0, Nat.zero_le _, rfl, rfl, Dr.refl _⟩
  case round =>
    obtain ⟨k, hk, rfl, rfl, hd⟩ := hrel
    have hB := hd.below w.heap.size
    have hDw := HH.out.below hB
    have hp' := hB.cell (p := ⟨p, 0, none⟩) (World.block_lt_of_cell? w _ hp)
    rw [hp] at hp'
    by_cases hlt : k < t.size
    · have hki : ((k : Int) < (t.size : Int)) := by omega
      have eb := byt_of hlt
      have hvk := HV.out k hlt
      have hdo : dof (t[k]'hlt).toNat b = dval (byt t k) := by rw [← eb, dof_of hvk]
      have hD1 := HD.out (t[k]'hlt).toNat
      rw [hdo] at hD1
      have hD2 := hide' hD1
      clear hD1
      obtain ⟨V, hV⟩ : ∃ V, tvr b (fun j => dval (byt t j)) 0 k = V := ⟨_, rfl⟩
      rw [hV]
      have hVl : V < b ^ k := by rw [← hV]; exact tvr_lt fun j hj => by simpa using HV.out j (by omega)
      have hpk : b ^ (k + 1) ≤ 4294967296 := Nat.le_trans (Nat.pow_le_pow_right (by omega) (by omega)) HN.out
      rw [Nat.pow_succ] at hpk
      have hm : V * b < 4294967296 := by
        have : V * b < b ^ k * b := Nat.mul_lt_mul_of_pos_right hVl (by omega)
        omega
      have m1 : IntKind.u64.wrap ((V : Int) * (b : Int)) = ((V * b : Nat) : Int) := by rw [← Int.natCast_mul]; exact wrapU (by omega)
      have m2 : IntKind.u64.wrap (b : Int) = (b : Int) := wrapU (by omega)
      have m3 : IntKind.u64.wrap ((dval (byt t k) : Nat) : Int) = ((dval (byt t k) : Nat) : Int) := wrapU (by omega)
      have m4 : IntKind.u64.wrap (((V * b : Nat) : Int) + ((dval (byt t k) : Nat) : Int)) = ((V * b + dval (byt t k) : Nat) : Int) := by rw [← Int.natCast_add]; exact wrapU (by omega)
      go_wp2_with fail
      go_quiet ((go_at_call 123; exact Calls.quiet_of_same (hD2.out _ (by rw [← eb]; exact byt_lt t k) (by exact hDw))))
      go_wp2_with fail
      refine ⟨⟨k + 1, by omega, by go_num, ?_, hd.drewN nq⟩, by simp [intOf]; omega⟩
      rw [← eb, m3, ← Int.natCast_mul, m4, tvr, hV, Nat.zero_add]
    · have e : k = t.size := by omega
      subst e
      have hvl := val_lt (b := b) (s := t) HV.out
      have hpl : b ^ t.size ≤ 4294967296 := Nat.le_trans (Nat.pow_le_pow_right (by omega) ht) HN.out
      rw [show tvr b (fun j => dval (byt t j)) 0 t.size = val b t from rfl]
      have HO := hide' (fun w' => Of_any (val b t) w' (by omega))
      go_wp2_with fail
      refine (HO.out _).mono ?_
      rintro e w1 ⟨a1, rfl, h1⟩
      go_wp2
      go_ret
      exact ⟨a1, rfl, h1.back hB⟩
end Go.Proofs.YtjbeagbkjmaeeaaGreatDoor

namespace Go.Proofs.YtjbeagbkjmaeeaaGreatDoor
open Go.RowKit
set_option linter.unusedVariables false

/-- the k powers of a scale: b to the n times 2 to the i-th -/
def Pw (w : World) (ao : Option Addr) (b n k : Nat) : Prop := ∀ i, i < k → ∃ (g off : Nat) (a : Option Addr), ao = some ⟨g, off, none⟩ ∧ g < w.heap.size ∧ w.cell? ⟨g, off + i, none⟩ = some (.slice a (ln (b ^ (n * 2 ^ i))) (ln (b ^ (n * 2 ^ i)))) ∧ Seg w a (b ^ (n * 2 ^ i)) (ln (b ^ (n * 2 ^ i)))
theorem Pw.below {w w' : World} {ao : Option Addr} {b n k : Nat} (h : Pw w ao b n k) (hb : Below w.heap.size w w') : Pw w' ao b n k := fun i hi => by
  obtain ⟨g, off, a, e, hg, hc, hs⟩ := h i hi
  exact ⟨g, off, a, e, Nat.lt_of_lt_of_le hg hb.size, cellL hb hc, segL hb hs⟩
theorem shl_is {n m Q : Nat} (hQ : n * 2 ^ m = Q) (hq : Q ≤ 281474976710656) : wrap64 ((n : Int) * 2 ^ m) = (Q : Int) := by
  have e : (n : Int) * 2 ^ m = (Q : Int) := by
    rw [← hQ]
    push_cast
    rfl
  rw [e]
  clear hQ e
  unfold wrap64
  omega
set_option maxHeartbeats 4000000 in
theorem read_any (p b n k cap : Nat) (ao : Option Addr) (hb0 : 2 ≤ b) (hb : b ≤ 16) (hn : b ^ n ≤ 4294967296) (hn1 : 1 ≤ n) (hk0 : k ≤ 48) (hkc : k ≤ cap) (hk40 : n * 2 ^ k ≤ 281474976710656) : ∀ (m : Nat) (t : ByteArray) (w : World), m ≤ k → t.size ≤ 140737488355328 → Digs w → w.cell? ⟨p, 0, none⟩ = some (.int .i64 b) → w.cell? ⟨p, 1, none⟩ = some (.int .i64 n) → w.cell? ⟨p, 2, none⟩ = some (.slice ao k cap) → Pw w ao b n k → t.size ≤ n * 2 ^ m → (∀ j, j < t.size → dval (byt t j) < b) →
    Calls Tryz.prog 103 #[.pointer (some ⟨p, 0, none⟩), .string t, .int .i64 m] w fun e w' => ∃ a, e = .returned (.slice a (ln (val b t)) (ln (val b t))) ∧ New w w' a (val b t) (ln (val b t)) := by
  intro m
  induction m with
  | zero =>
    intro t w hmk h47 h q0 q1 q2 hP ht hv
    have HR := hide' (readLimb_any p b n t w h hb0 hb q0 hn (by simpa using ht) hv)
    clear hn hv
    go_enter Tryz.func103, Tryz.ntmps103
    go_wp2_with fail
    refine HR.out.mono ?_
    rintro e w1 ⟨a1, rfl, h1⟩
    go_wp2
    go_ret
    exact ⟨a1, rfl, h1⟩
  | succ m ih =>
    intro t w hmk h47 h q0 q1 q2 hP ht hv
    have IH := hide' ih
    have HV := hide' hv
    have HN := hide' hn
    have hm2 : n * 2 ^ m ≤ n * 2 ^ k := Nat.mul_le_mul_left n (Nat.pow_le_pow_right (by omega) (by omega))
    have hmm : t.size ≤ n * 2 ^ m + n * 2 ^ m := by rw [Nat.pow_succ] at ht; rw [← Nat.mul_assoc] at ht; omega
    obtain ⟨Q, hQ⟩ : ∃ Q, n * 2 ^ m = Q := ⟨_, rfl⟩
    rw [hQ] at hm2 hmm IH
    have hQ4 : Q ≤ 281474976710656 := Nat.le_trans hm2 hk40
    have hm64 : m ≤ 64 := by clear ht hk40 hn hv ih hm2 hmm hQ4 hQ; omega
    clear ht hm2 ih hv hn hk40
    have wm : wrap64 (m : Int) = (m : Int) := by clear hQ; unfold wrap64; omega
    have hsh : wrap64 ((n : Int) * 2 ^ m) = (Q : Int) := shl_is hQ hQ4
    have HQ := hide' hQ
    clear hQ
    by_cases hle : t.size ≤ Q
    · have wd : wrap64 ((t.size : Int) - (Q : Int)) = (t.size : Int) - (Q : Int) := by unfold wrap64; omega
      have hle2 : (t.size : Int) - (Q : Int) ≤ 0 := by omega
      have hle3 : (t.size : Int) ≤ (Q : Int) := by omega
      have HI := hide' (IH.out t w (by omega) h47 h q0 q1 q2 hP hle HV.out)
      go_enter Tryz.func103, Tryz.ntmps103
      go_wp2_with fail
      refine HI.out.mono ?_
      rintro e w1 ⟨a1, rfl, h1⟩
      go_wp2
      go_ret
      exact ⟨a1, rfl, h1⟩
    · obtain ⟨c, hc⟩ : ∃ c, t.size - Q = c := ⟨_, rfl⟩
      have wd : wrap64 ((t.size : Int) - (Q : Int)) = (c : Int) := by unfold wrap64; omega
      have hcI : ((t.size : Int) - (Q : Int)) = (c : Int) := by omega
      have hc0 : ¬ ((c : Int) ≤ 0) := by omega
      have hc4 : (0 : Int) < (c : Int) := by omega
      have hc1 : (0 : Int) ≤ (c : Int) := by omega
      have hc2 : (c : Int) ≤ (t.size : Int) := by omega
      have hc3 : c ≤ t.size := by omega
      go_enter Tryz.func103, Tryz.ntmps103
      go_wp2_with fail
      have s1 : (t.extract 0 c).size = c := by rw [ByteArray.size_extract]; omega
      have s2 : (t.extract c t.size).size = Q := by rw [ByteArray.size_extract]; omega
      have v1 : ∀ j, j < (t.extract 0 c).size → dval (byt (t.extract 0 c) j) < b := fun j hj => by
        rw [s1] at hj
        rw [byt_extract hc3 (by omega), Nat.zero_add]
        exact HV.out j (by omega)
      have v2 : ∀ j, j < (t.extract c t.size).size → dval (byt (t.extract c t.size) j) < b := fun j hj => by
        rw [s2] at hj
        rw [byt_extract (Nat.le_refl _) (by omega)]
        exact HV.out _ (by omega)
      have hval := val_cut (b := b) hc3
      rw [show t.size - c = Q by omega] at hval
      have I1 := hide' (fun w' h' k0 k1 k2 kP => IH.out (t.extract 0 c) w' (by omega) (by omega) h' k0 k1 k2 kP (by omega) v1)
      have I2 := hide' (fun w' h' k0 k1 k2 kP => IH.out (t.extract c t.size) w' (by omega) (by omega) h' k0 k1 k2 kP (by omega) v2)
      obtain ⟨A1, hA1⟩ : ∃ A, val b (t.extract 0 c) = A := ⟨_, rfl⟩
      obtain ⟨A2, hA2⟩ : ∃ A, val b (t.extract c t.size) = A := ⟨_, rfl⟩
      have hP0 := hP m (by omega)
      rw [HQ.out] at hP0
      have hbB : b ≤ BB := by rw [BB_eq]; omega
      have l2 : ln A2 ≤ Q / 8 + 1 := by
        have := val_lt (b := b) v2
        rw [s2, hA2] at this
        exact ln_le_of_lt (Nat.lt_trans this (lt8 hb))
      obtain ⟨P, hPe⟩ : ∃ P, b ^ Q = P := ⟨_, rfl⟩
      have l3 : ln P ≤ Q / 8 + 1 := by
        rw [← hPe]
        exact ln_le_of_lt (lt8 hb)
      have l1 : ln A1 ≤ c / 8 + 1 := by
        have := val_lt (b := b) v1
        rw [s1, hA1] at this
        exact ln_le_of_lt (Nat.lt_trans this (lt8 hb))
      have l1x : True := trivial
      rw [hA1] at I1 hval
      rw [hA2] at I2 hval
      rw [hPe] at hP0 hval
      have HVL := hide' hval
      clear v1 v2 s1 s2 hA1 hA2 IH l1x hPe HQ hval
      have l4 : ln (A1 * P) ≤ c / 8 + 1 + (Q / 8 + 1) := Nat.le_trans (ln_prod (ln_lt A1) (ln_lt P)) (by omega)
      obtain ⟨g, off, aP, rfl, hg, hcP, hsP⟩ := hP0
      have hBW : Below w.heap.size w w := Below.refl _ _
      have wm2 : IntKind.i64.wrap (m : Int) = (m : Int) := by rw [IntKind.wrap_i64]; omega
      replace hBW := hBW.drew
      go_region_held3 (fun w' => Below w.heap.size w w')
        (first | exact hBW | exact Below.trans (by assumption) (Below.mono b41 (Below.size (by assumption))))
        (first
          | (go_at_call 103; (fail_if_success clear b41); refine (I1.out _ (h.below hBW) (cellL hBW q0) (cellL hBW q1) (cellL hBW q2) (hP.below hBW)).mono ?_; rintro e w41 ⟨a41, rfl, h41⟩; have b41 := h41.below; replace h41 := h41.back hBW; replace hBW := hBW.trans (b41.mono hBW.size))
          | (go_at_call 103; (fail_if_success clear b42); refine (I2.out _ (h.below hBW) (cellL hBW q0) (cellL hBW q1) (cellL hBW q2) (hP.below hBW)).mono ?_; rintro e w42 ⟨a42, rfl, h42⟩; have b42 := h42.below; replace h42 := h42.back hBW; replace h41 := h41.later b42; replace hBW := hBW.trans (b42.mono hBW.size)))
      have f2 := cellL hBW q2
      have fP := cellL hBW hcP
      have fS := segL hBW hsP
      go_wp2_with fail
      refine (Mul_is a41 aP (ln A1) (ln A1) A1 (ln P) (ln P) P (A1 * P) _ (Nat.le_refl _) (by omega) h41.seg (Nat.le_refl _) (by omega) fS rfl).mono ?_
      rintro e w43 ⟨a43, rfl, h43⟩
      have b43 := h43.below
      replace h42 := h42.later b43
      replace h43 := h43.back hBW
      replace hBW := hBW.trans (b43.mono hBW.size)
      go_wp2_with fail
      refine (Add_is a43 a42 (ln (A1 * P)) (ln (A1 * P)) (A1 * P) (ln A2) (ln A2) A2 (val b t) _ (Nat.le_refl _) (by omega) h43.seg (Nat.le_refl _) (by omega) h42.seg HVL.out.symm).mono ?_
      rintro e w44 ⟨a44, rfl, h44⟩
      go_wp2
      go_ret
      exact ⟨a44, rfl, h44.back hBW⟩
end Go.Proofs.YtjbeagbkjmaeeaaGreatDoor

namespace Go.Proofs.YtjbeagbkjmaeeaaGreatDoor
open Go.RowKit
set_option linter.unusedVariables false

set_option maxHeartbeats 2000000 in
theorem scaleOf_any (b : Nat) (hb0 : 2 ≤ b) (hb : b ≤ 16) (w : World) : Calls Tryz.prog 101 #[.int .i64 b] w fun e w' => ∃ n a, e = .returned (.agg #[.int .i64 b, .int .i64 (n : Nat), .slice none 0 0, .slice a (ln (b ^ n)) (ln (b ^ n))]) ∧ New w w' a (b ^ n) (ln (b ^ n)) ∧ 1 ≤ n ∧ n ≤ 31 ∧ b ^ n < 4294967296 := by
  have HO := hide' (fun N w' (h : N < 18446744073709551616) => Of_any N w' h)
  have m0 : IntKind.u64.wrap (b : Int) = (b : Int) := wrapU (by omega)
  go_enter Tryz.func101, Tryz.ntmps101
  go_wp2_with fail
  obtain ⟨W, hW⟩ : ∃ W, (w.alloc (.cells #[.int .i64 0, .int .i64 0, .slice none 0 0, .slice none 0 0] 111)) = W := ⟨_, rfl⟩
  have r00 : W.cell? ⟨w.heap.size, 0, none⟩ = some (.int .i64 0) := by subst hW; go_simp
  have r01 : W.cell? ⟨w.heap.size, 1, none⟩ = some (.int .i64 0) := by subst hW; go_simp
  have r02 : W.cell? ⟨w.heap.size, 2, none⟩ = some (.slice none 0 0) := by subst hW; go_simp
  have r03 : W.cell? ⟨w.heap.size, 3, none⟩ = some (.slice none 0 0) := by subst hW; go_simp
  have hB : Below w.heap.size w W := by subst hW; exact ((Below.refl _ _).alloc (by (try simp only [World.size_alloc]); omega) _)
  have hR0 : Row W (w.heap.size) := by
    have := row_new (w) #[.int .i64 0, .int .i64 0, .slice none 0 0, .slice none 0 0] 111
    try simp only [World.size_alloc] at this
    subst hW; exact this
  have hz : W.heap.size = w.heap.size + 1 := by subst hW; simp only [World.size_alloc]
  rw [hW]
  clear hW
  have hBW : Below W.heap.size W W := Below.refl _ _
  go_loop [3, 4] (fun wd pw => ∃ k : Nat, 1 ≤ k ∧ wd = .int .i64 k ∧ pw = .int .u64 (b ^ k : Nat) ∧ b ^ k < 4294967296 ∧ k ≤ 31) (fun wd _ => 40 - (intOf wd).toNat)
  case atStart => exact ⟨1, Nat.le_refl _, rfl, by rw [Nat.pow_one], by rw [Nat.pow_one]; omega, by omega⟩
  case round =>
    obtain ⟨k, hk1, rfl, rfl, hlt, hk31⟩ := hrel
    obtain ⟨M, hM⟩ : ∃ M, b ^ k * b = M := ⟨_, rfl⟩
    have hM2 : M ≤ 4294967296 * 16 := by rw [← hM]; exact Nat.mul_le_mul (Nat.le_of_lt hlt) hb
    have hsucc : b ^ (k + 1) = M := by rw [Nat.pow_succ, hM]
    have hkk : M < 4294967296 → k + 1 ≤ 31 := fun h => by
      have h1 : 2 ^ (k + 1) ≤ b ^ (k + 1) := Nat.pow_le_pow_left hb0 _
      rw [hsucc] at h1
      have h2 : 2 ^ (k + 1) < 2 ^ 32 := Nat.lt_of_le_of_lt h1 h
      have := (Nat.pow_lt_pow_iff_right (a := 2) (by decide)).1 h2
      omega
    have HS := hide' hsucc
    have HK := hide' hkk
    obtain ⟨P, hP⟩ : ∃ P, b ^ k = P := ⟨_, rfl⟩
    rw [hP] at hM hlt ⊢
    have m1 : IntKind.u64.wrap ((P : Int) * (b : Int)) = (M : Int) := by rw [← Int.natCast_mul, hM]; clear hP hM HS hsucc hkk; exact wrapU (by omega)
    have HP := hide' hP
    clear hP hM hsucc hkk
    by_cases hc : M < 4294967296
    · have hx : ((M : Int) / 4294967296 == 0) = true := by rw [beq_iff_eq]; omega
      go_wp2_with fail
      exact ⟨⟨k + 1, by omega, by go_num, by rw [HS.out], by rw [HS.out]; exact hc, HK.out hc⟩, by simp [intOf]; omega⟩
    · have hx : ((M : Int) / 4294967296 == 0) = false := by rw [beq_eq_false_iff_ne]; omega
      go_wp2_with fail
      refine (HO.out P _ (by omega)).mono ?_
      rintro e w1 ⟨a1, rfl, h1⟩
      have b1 := h1.below
      replace h1 := h1.back hBW
      replace hBW := hBW.trans (b1.mono hBW.size)
      replace r00 := below_cell b1 r00
      replace r01 := below_cell b1 r01
      replace r02 := below_cell b1 r02
      replace r03 := below_cell b1 r03
      replace hR0 := below_row b1 hR0
      have fz0 := fun o => hR0.frozen o
      go_wp2
      all_goals refine bodyPost_ret (v := .agg #[.int .i64 b, .int .i64 k, .slice none 0 0, .slice a1 (ln P) (ln P)]) (by rw [results_cell rfl]; go_simp) rfl ?_
      all_goals exact ⟨k, a1, by rw [HP.out], by rw [HP.out]; exact h1.mid hB ((((((Mid.refl _ _ _).set _ _ (by omega) (by omega) _).set _ _ (by omega) (by omega) _).set _ _ (by omega) (by omega) _).set _ _ (by omega) (by omega) _)), hk1, hk31, by rw [HP.out]; exact hlt⟩
end Go.Proofs.YtjbeagbkjmaeeaaGreatDoor

namespace Go.Proofs.YtjbeagbkjmaeeaaGreatDoor
open Go.RowKit
set_option linter.unusedVariables false

/-- a number's list does not lie in the block that v owns -/
def Away (a : Option Addr) (v : Value) : Prop := ∀ g, v.ownBlock = some g → ∀ o, a ≠ some ⟨g, o, none⟩
structure Sc (w : World) (B p b n k : Nat) (v : Value) (xs : List Value) (an : Option Addr) : Prop where
  row : Row w p
  pB : B ≤ p
  c0 : w.cell? ⟨p, 0, none⟩ = some (.int .i64 b)
  c1 : w.cell? ⟨p, 1, none⟩ = some (.int .i64 n)
  c2 : w.cell? ⟨p, 2, none⟩ = some v
  c3 : w.cell? ⟨p, 3, none⟩ = some (.slice an (ln (b ^ (n * 2 ^ k))) (ln (b ^ (n * 2 ^ k))))
  own : w.ownsRow B 23 1 v k xs
  vp : v.ownBlock ≠ some p
  olds : ∀ i, i < k → ∃ a, xs[i]? = some (.slice a (ln (b ^ (n * 2 ^ i))) (ln (b ^ (n * 2 ^ i)))) ∧ Seg w a (b ^ (n * 2 ^ i)) (ln (b ^ (n * 2 ^ i))) ∧ (∀ o, a ≠ some ⟨p, o, none⟩) ∧ Away a v
  next : Seg w an (b ^ (n * 2 ^ k)) (ln (b ^ (n * 2 ^ k)))
  np : ∀ o, an ≠ some ⟨p, o, none⟩
  nv : Away an v
/-- a list that lies in no block that has changed -/
theorem Seg.grown {w w' : World} {a : Option Addr} {X n : Nat} {row : Option Nat} (h : Seg w a X n) (hg : w.grownBy w' row) (ha : ∀ g, row = some g → ∀ o, a ≠ some ⟨g, o, none⟩) : Seg w' a X n := by
  refine ⟨h.1, fun hn => ?_⟩
  obtain ⟨b, off, e, hlt, hc⟩ := h.2 hn
  refine ⟨b, off, e, Nat.lt_of_lt_of_le hlt hg.size, fun i hi => ?_⟩
  rw [hg.cell_far ⟨b, off + i, none⟩ hlt (fun he => ha b he.symm off e)]
  exact hc i hi
theorem info_nat : ∃ i, Tryz.prog.info? 23 = some i ∧ i.zero = some (.slice none 0 0) ∧ i.size = 1 ∧ i.bytes = 24 := by
  have h : (Tryz.prog.info? 23).map (fun i => (i.zero, i.size, i.bytes)) = some (some (.slice none 0 0), 1, 24) := by kernel_rfl
  cases hi : Tryz.prog.info? 23 with
  | none => rw [hi] at h; cases h
  | some i =>
    rw [hi] at h
    simp only [Option.map_some, Option.some.injEq, Prod.mk.injEq] at h
    exact ⟨i, rfl, h.1, h.2.1, h.2.2⟩

theorem ownsL {w w' : World} {B e s n : Nat} {v : Value} {xs : List Value} (hb : Below w.heap.size w w') (h : w.ownsRow B e s v n xs) : w'.ownsRow B e s v n xs := by
  refine ⟨h.1, h.2.imp id ?_⟩
  rintro ⟨g, cap, cur, e1, e2, e3, r⟩
  have hlt : g < w.heap.size := (Array.getElem?_eq_some_iff.1 e3).1
  exact ⟨g, cap, cur, e1, e2, by rw [hb.block g hlt]; exact e3, r⟩
theorem setW (w : World) (p o : Nat) (u : Value) : Wr p o (o + 1) w (w.setCell ⟨p, o, none⟩ u) := (Wr.refl p o (o + 1) w).setCell o (Nat.le_refl _) (by omega) u
theorem Seg.setFar {w : World} {a : Option Addr} {X n p o : Nat} {u : Value} (h : Seg w a X n) (hne : ∀ o, a ≠ some ⟨p, o, none⟩) : Seg (w.setCell ⟨p, o, none⟩ u) a X n := h.wr (setW w p o u) hne
theorem ownsW {w w' : World} {B e s n p lo hi : Nat} {v : Value} {xs : List Value} (hw : Wr p lo hi w w') (hne : v.ownBlock ≠ some p) (h : w.ownsRow B e s v n xs) : w'.ownsRow B e s v n xs := by
  refine ⟨h.1, h.2.imp id ?_⟩
  rintro ⟨g, cap, cur, e1, e2, e3, r⟩
  have hlt : g < w.heap.size := (Array.getElem?_eq_some_iff.1 e3).1
  exact ⟨g, cap, cur, e1, e2, by rw [hw.other g hlt (fun e => hne (by rw [e1, e]; rfl))]; exact e3, r⟩
theorem grown_below {w w' : World} {row : Option Nat} {B : Nat} (h : w.grownBy w' row) (hB : B ≤ w.heap.size) (hr : ∀ g, row = some g → B ≤ g) : Below B w w' :=
  ⟨h.os, h.tape, h.output, h.size, fun k hk => h.block k (by omega) (fun e => by have := hr k e.symm; omega)⟩
theorem owns_ge {w : World} {B e s n g : Nat} {v : Value} {xs : List Value} (h : w.ownsRow B e s v n xs) (hg : v.ownBlock = some g) : B ≤ g := by
  rcases h.2 with ⟨rfl, _⟩ | ⟨g', cap, cur, rfl, hb, _⟩
  · cases hg
  · have : g' = g := by simpa [Value.ownBlock] using hg
    omega
/-- behind the append, and the store of the new powers -/
structure Sm (w W2 : World) (B p b n k : Nat) (v : Value) (xs : List Value) (an : Option Addr) : Prop where
  row : Row W2 p
  pB : B ≤ p
  c0 : W2.cell? ⟨p, 0, none⟩ = some (.int .i64 b)
  c1 : W2.cell? ⟨p, 1, none⟩ = some (.int .i64 n)
  c2 : W2.cell? ⟨p, 2, none⟩ = some v
  c3 : W2.cell? ⟨p, 3, none⟩ = some (.slice an (ln (b ^ (n * 2 ^ k))) (ln (b ^ (n * 2 ^ k))))
  own : W2.ownsRow B 23 1 v (k + 1) xs
  vp : v.ownBlock ≠ some p
  olds : ∀ i, i < k + 1 → ∃ a, xs[i]? = some (.slice a (ln (b ^ (n * 2 ^ i))) (ln (b ^ (n * 2 ^ i)))) ∧ Seg W2 a (b ^ (n * 2 ^ i)) (ln (b ^ (n * 2 ^ i))) ∧ (∀ o, a ≠ some ⟨p, o, none⟩) ∧ Away a v
  next : Seg W2 an (b ^ (n * 2 ^ k)) (ln (b ^ (n * 2 ^ k)))
  below : Below B w W2
theorem ln_pw {b m : Nat} (hb : 2 ≤ b) : 0 < ln (b ^ m) := by
  have : b ^ m ≠ 0 := Nat.pos_iff_ne_zero.1 (Nat.pow_pos (by omega))
  exact Nat.pos_of_ne_zero (fun e => this (ln_eq_zero.1 e))
theorem grow_mid {w w1 : World} {B p b n k N g cap : Nat} {v : Value} {xs : List Value} {an : Option Addr} (hS : Sc w B p b n k v xs an) (hB : B ≤ w.heap.size) (hb : 2 ≤ b) (hN : b ^ (n * 2 ^ k) = N)
    (hown : w1.ownsRow B 23 1 (.slice (some ⟨g, 0, none⟩) (k + 1) cap) (k + 1) (xs ++ [.slice an (ln N) (ln N)])) (hgrow : (w.alloc (.cells #[.slice an (ln N) (ln N)] 23)).grownBy w1 v.ownBlock) (hat : v.ownBlock = some g ∨ g = w.heap.size + 1) :
    Sm w (w1.setCell ⟨p, 2, none⟩ (.slice (some ⟨g, 0, none⟩) (k + 1) cap)) B p b n k (.slice (some ⟨g, 0, none⟩) (k + 1) cap) (xs ++ [.slice an (ln N) (ln N)]) an := by
  subst hN
  have ba := below_alloc (w := w) (.cells #[.slice an (ln (b ^ (n * 2 ^ k))) (ln (b ^ (n * 2 ^ k)))] 23)
  have hplt := hS.row.lt
  have hp1 : p < (w.alloc (.cells #[.slice an (ln (b ^ (n * 2 ^ k))) (ln (b ^ (n * 2 ^ k)))] 23)).heap.size := Nat.lt_of_lt_of_le hplt ba.size
  have far := fun o => hgrow.cell_far ⟨p, o, none⟩ (by exact hp1) (fun e => hS.vp e.symm)
  have hgp : g ≠ p := by
    rcases hat with h | h
    · intro e; exact hS.vp (by rw [h, e])
    · omega
  have rowa : Row w1 p := by
    obtain ⟨cur, t, hr⟩ := hS.row.alloc (.cells #[.slice an (ln (b ^ (n * 2 ^ k))) (ln (b ^ (n * 2 ^ k)))] 23)
    exact ⟨cur, t, by rw [hgrow.block p hp1 (fun e => hS.vp e.symm)]; exact hr⟩
  have seg1 : ∀ {a : Option Addr} {X m : Nat}, Seg w a X m → Away a v → Seg w1 a X m := fun h ha => (segL ba h).grown hgrow ha
  have away1 : ∀ {a : Option Addr} {X m : Nat}, Seg w a X m → 0 < m → Away a v → Away a (.slice (some ⟨g, 0, none⟩) (k + 1) cap) := fun {a X m} h hm ha g' hg' o => by
    have e : g' = g := by simpa [Value.ownBlock] using hg'.symm
    subst e
    rcases hat with h1 | h1
    · exact ha g' h1 o
    · exact h.ne_new hm (by omega) o
  refine ⟨rowa.setCell _ _, hS.pB, ?_, ?_, ?_, ?_, ownsW (setW w1 p 2 _) (by simpa [Value.ownBlock] using hgp) hown, by simpa [Value.ownBlock] using hgp, ?_, (seg1 hS.next hS.nv).setFar hS.np, ?_⟩
  · rw [World.cell?_setCell_other _ _ _ _ (fun e => by simp at e), far 0]; exact cellL ba hS.c0
  · rw [World.cell?_setCell_other _ _ _ _ (fun e => by simp at e), far 1]; exact cellL ba hS.c1
  · exact World.cell?_setCell_same _ _ _ ((far 2).trans (cellL ba hS.c2))
  · rw [World.cell?_setCell_other _ _ _ _ (fun e => by simp at e), far 3]; exact cellL ba hS.c3
  · intro i hi
    have hlen : xs.length = k := by have := hS.own.1; omega
    by_cases e : i = k
    · subst e
      exact ⟨an, by rw [List.getElem?_append_right (by omega), hlen]; simp, (seg1 hS.next hS.nv).setFar hS.np, hS.np, away1 hS.next (ln_pw hb) hS.nv⟩
    · obtain ⟨a, e1, e2, e3, e4⟩ := hS.olds i (by omega)
      exact ⟨a, by rw [List.getElem?_append_left (by omega)]; exact e1, (seg1 e2 e4).setFar e3, e3, away1 e2 (ln_pw hb) e4⟩
  · have h1 : Below B w (w.alloc (.cells #[.slice an (ln (b ^ (n * 2 ^ k))) (ln (b ^ (n * 2 ^ k)))] 23)) := ba.mono hB
    have h2 := grown_below hgrow (Nat.le_trans hB ba.size) (fun g hg => owns_ge hS.own hg)
    exact (h1.trans h2).setCell hS.pB _
theorem grow_end {w W2 w3 : World} {B p b n k N : Nat} {v : Value} {xs : List Value} {an a3 : Option Addr} (hS : Sm w W2 B p b n k v xs an) (hB : B ≤ W2.heap.size) (hb : 2 ≤ b) (hN : b ^ (n * 2 ^ k) = N) (h3 : New W2 w3 a3 (N * N) (ln (N * N))) :
    Sc (w3.setCell ⟨p, 3, none⟩ (.slice a3 (ln (N * N)) (ln (N * N)))) B p b n (k + 1) v xs a3 ∧ Below B w (w3.setCell ⟨p, 3, none⟩ (.slice a3 (ln (N * N)) (ln (N * N)))) := by
  subst hN
  have hb3 := h3.below
  have hplt := hS.row.lt
  have e : b ^ (n * 2 ^ k) * b ^ (n * 2 ^ k) = b ^ (n * 2 ^ (k + 1)) := by rw [← Nat.pow_add, Nat.pow_succ, ← Nat.mul_assoc]; congr 1; omega
  rw [e] at h3 ⊢
  have np3 : ∀ o, a3 ≠ some ⟨p, o, none⟩ := by
    obtain ⟨b', off', e', hb', _⟩ := h3.fresh (ln_pw hb)
    intro o he
    rw [e'] at he
    simp at he
    try omega
  refine ⟨⟨(below_row hb3 hS.row).setCell _ _, hS.pB, ?_, ?_, ?_, ?_, ownsW (setW w3 p 3 _) hS.vp (ownsL hb3 hS.own), hS.vp, ?_, h3.seg.setFar np3, np3, ?_⟩, (hS.below.trans (hb3.mono hB)).setCell hS.pB _⟩
  · rw [World.cell?_setCell_other _ _ _ _ (fun e => by simp at e)]; exact cellL hb3 hS.c0
  · rw [World.cell?_setCell_other _ _ _ _ (fun e => by simp at e)]; exact cellL hb3 hS.c1
  · rw [World.cell?_setCell_other _ _ _ _ (fun e => by simp at e)]; exact cellL hb3 hS.c2
  · exact World.cell?_setCell_same _ _ _ (cellL hb3 hS.c3)
  · intro i hi
    obtain ⟨a, e1, e2, e3, e4⟩ := hS.olds i hi
    exact ⟨a, e1, (segL hb3 e2).setFar e3, e3, e4⟩
  · intro g hg o
    have hlt : g < W2.heap.size := by
      rcases hS.own.2 with ⟨rfl, _⟩ | ⟨g', cap, cur, rfl, _, hg', _⟩
      · cases hg
      · have : g' = g := by simpa [Value.ownBlock] using hg
        subst this
        exact (Array.getElem?_eq_some_iff.1 hg').1
    obtain ⟨b', off', e', hb', _⟩ := h3.fresh (ln_pw hb)
    intro he
    rw [e'] at he
    simp at he
    try omega

set_option maxHeartbeats 4000000 in
set_option maxRecDepth 100000 in
theorem grow_any (B p b n k N : Nat) (v : Value) (xs : List Value) (an : Option Addr) (w : World) (hS : Sc w B p b n k v xs an) (hB : B ≤ w.heap.size) (hb0 : 2 ≤ b) (hk : k ≤ 48) (hN : b ^ (n * 2 ^ k) = N) (hl : ln N ≤ 35184372088832) :
    Calls Tryz.prog 102 #[.pointer (some ⟨p, 0, none⟩)] w fun e w' => e = .returned (.tuple #[]) ∧ Below B w w' ∧ ∃ v' an', Sc w' B p b n (k + 1) v' (xs ++ [.slice an (ln N) (ln N)]) an' := by
  have hS0 := hide' hS
  obtain ⟨row, pB, c0, c1, c2, c3, own, vp, olds, next, np, nv⟩ := hS
  obtain ⟨i0, hi, hz0, hz1, hz2⟩ := info_nat
  rw [hN] at c3 next
  have HN := hide' hN
  have HO := hide' olds
  clear hN olds
  go_enter Tryz.func102, Tryz.ntmps102
  go_wp2_with fail
  have ba := below_alloc (w := w) (.cells #[.slice an (ln N) (ln N)] 23)
  have c2a := cellL ba c2
  have c3a := cellL ba c3
  have owna := ownsL ba own
  have rowa := row.alloc (.cells #[.slice an (ln N) (ln N)] 23)
  have hza : (w.alloc (.cells #[.slice an (ln N) (ln N)] 23)).heap.size = w.heap.size + 1 := World.size_alloc _ _
  have newa : (w.alloc (.cells #[.slice an (ln N) (ln N)] 23)).heap[w.heap.size]? = some (.cells #[.slice an (ln N) (ln N)] 23 (0, 0)) := by
    show (w.heap.push _)[w.heap.size]? = _
    rw [Array.getElem?_push, if_pos rfl]
  have hplt := row.lt
  go_region_law ((refine step_append_lies _ rfl (.tmp 6) (.tmp 11) 109 rfl B 23 i0 (.slice none 0 0) 1 24 Tryz.underlying109 hi hz0 hz1 hz2 rfl (by decide) v k xs rfl owna ⟨w.heap.size, 0, none⟩ 1 1 [.slice an (ln N) (ln N)] rfl rfl (World.news_of_block (cs := #[.slice an (ln N) (ln N)]) newa) (by intro u hu; simp at hu; subst hu; rfl) (by omega) (by unfold maxLen; omega) (by omega) (by exact Nat.le_trans hB ba.size) (w.heap.size + 1) hza ?_; intro g cap w1 hown hgrow hat hlt; have d2 := hgrow.cell_far ⟨p, 2, none⟩ (by exact Nat.lt_of_lt_of_le hplt ba.size) (fun e => vp e.symm); have fz : ∀ o, w1.frozen? ⟨p, o, none⟩ = false := fun o => (hgrow.frozen_far ⟨p, o, none⟩ (by exact Nat.lt_of_lt_of_le hplt ba.size) (fun e => vp e.symm)).trans (rowa.frozen o)))
  all_goals have hM := grow_mid hS0.out hB hb0 HN.out hown ⟨hgrow.os, hgrow.tape, hgrow.output, hgrow.size, hgrow.block⟩ hat
  all_goals clear c0 c1 c2 c3 c2a c3a owna rowa newa hza ba own vp next np nv hown hgrow hat hlt d2 fz row HO hS0 hplt
  all_goals obtain ⟨V', hV'⟩ : ∃ V', Value.slice (some ⟨g, 0, none⟩) (k + 1) cap = V' := ⟨_, rfl⟩
  all_goals rw [hV'] at hM ⊢
  all_goals generalize w1.setCell ⟨p, 2, none⟩ V' = W2 at hM ⊢
  all_goals have hMM := hide' hM
  all_goals obtain ⟨row, pB', c0, c1, c2, c3, own, vp, olds, next, bel⟩ := hM
  all_goals rw [HN.out] at c3 next
  all_goals have fz := fun o => row.frozen o
  all_goals clear olds own c0 c1 c2
  all_goals go_wp2_with fail
  all_goals go_region_with ((go_at_call 82; refine (Mul_is an an (ln N) (ln N) N (ln N) (ln N) N (N * N) _ (Nat.le_refl _) hl (by exact next) (Nat.le_refl _) hl (by exact next) rfl).mono ?_; rintro e w3 ⟨a3, rfl, h3⟩; replace h3 := h3.back ((Below.refl W2.heap.size W2).drew); have e3 := cellL h3.below c3; have fz3 := fun o => (below_row h3.below row).frozen o))
  all_goals go_wp2_with fail
  all_goals go_end0
  all_goals have hE := grow_end hMM.out (Nat.le_trans hB bel.size) hb0 HN.out h3
  all_goals exact ⟨rfl, hE.2, V', a3, hE.1⟩
end Go.Proofs.YtjbeagbkjmaeeaaGreatDoor

namespace Go.Proofs.YtjbeagbkjmaeeaaGreatDoor
open Go.RowKit
set_option linter.unusedVariables false

theorem Sc.form {w : World} {B p b n k : Nat} {v : Value} {xs : List Value} {an : Option Addr} (h : Sc w B p b n k v xs an) : ∃ ao cap, v = .slice ao k cap ∧ k ≤ cap ∧ Pw w ao b n k := by
  have hlen : xs.length = k := by have := h.own.1; omega
  rcases h.own.2 with ⟨rfl, rfl⟩ | ⟨g, cap, cur, rfl, hb, hg, hc, _, hs, ht⟩
  · exact ⟨none, 0, rfl, Nat.le_refl _, fun i hi => absurd hi (by omega)⟩
  · refine ⟨_, cap, rfl, hc, fun i hi => ?_⟩
    obtain ⟨a, e1, e2, e3, e4⟩ := h.olds i hi
    refine ⟨g, 0, a, rfl, (Array.getElem?_eq_some_iff.1 hg).1, ?_, e2⟩
    rw [cell_of_row w g (0 + i) cur _ _ hg, Nat.zero_add]
    rw [← ht, List.getElem?_take_of_lt (by omega)] at e1
    simpa using e1
/-- how many powers there are -/
def lenAt (p : Nat) (w : World) : Nat := match w.cell? ⟨p, 2, none⟩ with | some (.slice _ l _) => l | _ => 0
theorem lenAt_of {p : Nat} {w : World} {a : Option Addr} {l c : Nat} (h : w.cell? ⟨p, 2, none⟩ = some (.slice a l c)) : lenAt p w = l := by unfold lenAt; rw [h]
theorem isBase_ok (b : Nat) (h0 : 2 ≤ b) (h1 : b ≤ 16) (w : World) : Calls Tryz.prog 99 #[.int .i64 b] w fun e w' => e = .returned (.bool true) ∧ w' = w := by
  have e1 : (2 : Int) ≤ (b : Int) := by omega
  have e2 : (b : Int) ≤ 16 := by omega
  go_enter Tryz.func99, Tryz.ntmps99
  go_wp2
  all_goals go_ret
  all_goals exact ⟨by simp_all, rfl⟩
set_option maxHeartbeats 1000000 in
theorem Parse_bad (s : ByteArray) (b : Nat) (hb0 : 2 ≤ b) (hb : b ≤ 16) (hs : s.size ≤ 9223372036854775807) (hT : ¬ isT b s) (w : World) (h : Digs w) : Calls Tryz.prog 77 #[.string s, .int .i64 b] w fun e w' => e = .returned (.tuple #[.slice none 0 0, .int .i64 15]) ∧ Below w.heap.size w w' := by
  have H := hide' (isBase_ok b hb0 hb)
  have H2 := hide' (isText_any s b hb hb0 hs w h)
  have HT := hide' hT
  clear hT
  go_enter Tryz.func77, Tryz.ntmps77
  go_wp2_with fail
  refine (H.out _).mono ?_
  rintro e w0 ⟨rfl, rfl⟩
  go_wp2_with fail
  refine H2.out.mono ?_
  rintro e w1 ⟨_, e2, hd⟩
  obtain rfl := e2 HT.out
  go_wp2
  go_ret2
  exact ⟨rfl, hd.below _⟩
set_option maxHeartbeats 4000000 in
theorem Parse_ok (s : ByteArray) (b : Nat) (hb0 : 2 ≤ b) (hb : b ≤ 16) (hs : s.size ≤ 140737488355328) (hT : isT b s) (w : World) (h : Digs w) : Calls Tryz.prog 77 #[.string s, .int .i64 b] w fun e w' => ∃ a, e = .returned (.tuple #[.slice a (ln (val b s)) (ln (val b s)), .int .i64 0]) ∧ New w w' a (val b s) (ln (val b s)) := by
  have H := hide' (isBase_ok b hb0 hb)
  have H2 := hide' (isText_any s b hb hb0 (by omega) w h)
  have H3 := hide' (scaleOf_any b hb0 hb)
  have HT := hide' hT
  have HH := hide' h
  clear hT
  go_enter Tryz.func77, Tryz.ntmps77
  go_wp2_with fail
  refine (H.out _).mono ?_
  rintro e w0 ⟨rfl, rfl⟩
  go_wp2_with fail
  refine H2.out.mono ?_
  rintro e w1 ⟨e1, _, hd⟩
  obtain rfl := e1 HT.out
  go_wp2_with fail
  refine (H3.out _).mono ?_
  rintro e w2 ⟨n, a2, rfl, h2, hn1, hn31, hlt⟩
  have hB := (hd.below w0.heap.size).trans (h2.below.mono (hd.below w0.heap.size).size)
  have ba := below_alloc (w := w2) (.cells #[.int .i64 b, .int .i64 n, .slice none 0 0, .slice a2 (ln (b ^ n)) (ln (b ^ n))] 111)
  have hBa := hB.trans (ba.mono hB.size)
  have hSc : Sc (w2.alloc (.cells #[.int .i64 b, .int .i64 n, .slice none 0 0, .slice a2 (ln (b ^ n)) (ln (b ^ n))] 111)) w0.heap.size w2.heap.size b n 0 (.slice none 0 0) [] a2 := by
    refine ⟨row_new _ _ _, hB.size, by go_simp, by go_simp, by go_simp, ?_, World.ownsRow_nil _ _ _ _, by simp [Value.ownBlock], fun i hi => absurd hi (by omega), ?_, ?_, fun g hg => by cases hg⟩
    · rw [Nat.pow_zero, Nat.mul_one]; go_simp
    · rw [Nat.pow_zero, Nat.mul_one]; exact segL ba h2.seg
    · exact h2.seg.ne_new (ln_pw hb0) (Nat.le_refl _)
  have hlt' := hide' hlt
  clear hlt
  go_wp2_with fail
  generalize w2.alloc (.cells #[.int .i64 b, .int .i64 n, .slice none 0 0, .slice a2 (ln (b ^ n)) (ln (b ^ n))] 111) = W at hBa hSc ⊢
  go_loopw [16] (fun _ wr => ∃ k v xs an, Sc wr w0.heap.size w2.heap.size b n k v xs an ∧ Below w0.heap.size w0 wr ∧ k ≤ 48 ∧ n * 2 ^ k ≤ 281474976710656) (fun _ wr => 49 - lenAt w2.heap.size wr)
  case atStart => exact ⟨0, _, _, _, hSc, hBa, by omega, by rw [Nat.pow_zero]; omega⟩
  case round =>
    obtain ⟨k, v, xs, an, hS, hbel, hk, hk2⟩ := hrel
    obtain ⟨ao, cap, rfl, hcap, hpw⟩ := hS.form
    obtain ⟨Q, hQ⟩ : ∃ Q, n * 2 ^ k = Q := ⟨_, rfl⟩
    have hQ4 : Q ≤ 281474976710656 := by rw [← hQ]; exact hk2
    have hsh : wrap64 ((n : Int) * 2 ^ k) = (Q : Int) := shl_is hQ hQ4
    have HQ := hide' hQ
    have HK2 := hide' hk2
    have c0 := hS.c0
    have c1 := hS.c1
    have c2 := hS.c2
    have hl0 := lenAt_of c2
    clear hQ hk2
    by_cases hq : Q < s.size
    · have hqi : (Q : Int) < (s.size : Int) := by omega
      have HG := hide' (grow_any w0.heap.size w2.heap.size b n k (b ^ Q) _ xs an wr hS hbel.size hb0 hk (by rw [HQ.out]) (Nat.le_trans (ln_le_of_lt (lt8 hb)) (by omega)))
      have hk39 : k + 1 ≤ 48 := by
        have h1 : 2 ^ k ≤ n * 2 ^ k := Nat.le_mul_of_pos_left _ (by omega)
        rw [HQ.out] at h1
        have h2 : 2 ^ k < 2 ^ 47 := Nat.lt_of_le_of_lt h1 (Nat.lt_of_lt_of_le hq hs)
        have h3 := (Nat.pow_lt_pow_iff_right (a := 2) (by decide)).1 h2
        clear h1 h2
        omega
      have hn2 : n * 2 ^ (k + 1) ≤ 281474976710656 := by
        rw [Nat.pow_succ, ← Nat.mul_assoc, HQ.out]; omega
      have HN2 := hide' hn2
      clear hn2
      go_wp2_with fail
      refine HG.out.mono ?_
      rintro e w3 ⟨rfl, bel3, v', an', hS'⟩
      go_wp2
      go_roundw
      case rel => exact ⟨k + 1, v', _, an', hS', hbel.trans bel3, hk39, HN2.out⟩
      case measure =>
        obtain ⟨ao', cap', rfl, _, _⟩ := hS'.form
        have hl1 := lenAt_of hS'.c2
        rw [hl0, hl1]
        omega
    · have hqi : ¬ ((Q : Int) < (s.size : Int)) := by omega
      have hqi2 : ((s.size : Int) ≤ (Q : Int)) := by omega
      have HR := hide' (read_any w2.heap.size b n k cap ao hb0 hb (Nat.le_of_lt hlt'.out) hn1 hk hcap HK2.out k s wr (Nat.le_refl _) hs (HH.out.below hbel) c0 c1 c2 hpw (by rw [HQ.out]; omega) HT.out.2.2)
      go_wp2_with fail
      refine HR.out.mono ?_
      rintro e w3 ⟨a3, rfl, h3⟩
      go_wp2
      go_ret2
      exact ⟨a3, rfl, h3.back hbel⟩
end Go.Proofs.YtjbeagbkjmaeeaaGreatDoor
