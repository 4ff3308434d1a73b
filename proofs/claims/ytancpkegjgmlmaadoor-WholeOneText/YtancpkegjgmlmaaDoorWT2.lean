/-
  Layer 1's texts: the number of a few digits.
-/
import Derived.Test.YtancpkegjgmlmaaDoorWT1
namespace Go.Proofs.YtancpkegjgmlmaaDoor
open Go.RowKit
set_option linter.unusedVariables false

theorem wrapU {x : Nat} (h : x < 18446744073709551616) : IntKind.u64.wrap (x : Int) = (x : Int) := by rw [IntKind.wrap_u64]; omega
set_option maxHeartbeats 2000000 in
theorem readLimb_any (p b n : Nat) (t : ByteArray) (w : World) (h : Digs w) (hb0 : 2 ≤ b) (hb : b ≤ 16) (hp : w.cell? ⟨p, 0, none⟩ = some (.int .i64 b)) (hn : b ^ n ≤ 4294967296) (ht : t.size ≤ n) (hv : ∀ k, k < t.size → dval (byt t k) < b) :
    Calls Tryd.prog 52 #[.pointer (some ⟨p, 0, none⟩), .string t] w fun e w' => ∃ a, e = .returned (.slice a (ln (val b t)) (ln (val b t))) ∧ New w w' a (val b t) (ln (val b t)) := by
  have HD := hide' (fun c w' (hc : c < 256) k => digitOf_any c b hc hb w' k)
  have HH := hide' h
  have HV := hide' hv
  have HN := hide' hn
  have hsz : t.size ≤ 9223372036854775807 := by
    have : n < 2 ^ n := Nat.lt_two_pow_self
    have h2 : 2 ^ n ≤ b ^ n := Nat.pow_le_pow_left hb0 n
    omega
  clear hv hn
  go_enter Tryd.func52, Tryd.ntmps52
  go_wp2_with fail
  go_loopw [5, 9] (fun v i wr => ∃ k : Nat, k ≤ t.size ∧ i = .int .i64 k ∧ v = .int .u64 (tvr b (fun j => dval (byt t j)) 0 k : Nat) ∧ Dr w wr) (fun _ i _ => t.size - (intOf i).toNat)
  case atStart => exact ⟨0, Nat.zero_le _, rfl, rfl, Dr.refl _⟩
  case round =>
    obtain ⟨k, hk, rfl, rfl, hd⟩ := hrel
    have hB := hd.below w.heap.size
    have hDw := HH.out.below hB
    have hp' := hB.cell (p := ⟨p, 0, none⟩) (World.block_lt_of_cell? w _ hp)
    rw [hp] at hp'
    by_cases hlt : k < t.size
    · have hki : ((k : Int) < (t.size : Int)) := by omega
      have eb := byt_of hlt
      have hvk := HV.out k hlt
      have hdo : dof (t[k]'hlt).toNat b = dval (byt t k) := by rw [← eb, dof_of hvk]
      have hD1 := HD.out (t[k]'hlt).toNat
      rw [hdo] at hD1
      have hD2 := hide' hD1
      clear hD1
      obtain ⟨V, hV⟩ : ∃ V, tvr b (fun j => dval (byt t j)) 0 k = V := ⟨_, rfl⟩
      rw [hV]
      have hVl : V < b ^ k := by rw [← hV]; exact tvr_lt fun j hj => by simpa using HV.out j (by omega)
      have hpk : b ^ (k + 1) ≤ 4294967296 := Nat.le_trans (Nat.pow_le_pow_right (by omega) (by omega)) HN.out
      rw [Nat.pow_succ] at hpk
      have hm : V * b < 4294967296 := by
        have : V * b < b ^ k * b := Nat.mul_lt_mul_of_pos_right hVl (by omega)
        omega
      have m1 : IntKind.u64.wrap ((V : Int) * (b : Int)) = ((V * b : Nat) : Int) := by rw [← Int.natCast_mul]; exact wrapU (by omega)
      have m2 : IntKind.u64.wrap (b : Int) = (b : Int) := wrapU (by omega)
      have m3 : IntKind.u64.wrap ((dval (byt t k) : Nat) : Int) = ((dval (byt t k) : Nat) : Int) := wrapU (by omega)
      have m4 : IntKind.u64.wrap (((V * b : Nat) : Int) + ((dval (byt t k) : Nat) : Int)) = ((V * b + dval (byt t k) : Nat) : Int) := by rw [← Int.natCast_add]; exact wrapU (by omega)
      go_wp2_with fail
      go_quiet ((go_at_call 50; exact Calls.quiet_of_same (hD2.out _ (by rw [← eb]; exact byt_lt t k) (by exact hDw))))
      go_wp2_with fail
      refine ⟨⟨k + 1, by omega, by go_num, ?_, hd.drewN nq⟩, by simp [intOf]; omega⟩
      rw [← eb, m3, ← Int.natCast_mul, m4, tvr, hV, Nat.zero_add]
    · have e : k = t.size := by omega
      subst e
      have hvl := val_lt (b := b) (s := t) HV.out
      have hpl : b ^ t.size ≤ 4294967296 := Nat.le_trans (Nat.pow_le_pow_right (by omega) ht) HN.out
      rw [show tvr b (fun j => dval (byt t j)) 0 t.size = val b t from rfl]
      have HO := hide' (fun w' => Of_any (val b t) w' (by omega))
      go_wp2_with fail
      refine (HO.out _).mono ?_
      rintro e w1 ⟨a1, rfl, h1⟩
      go_wp2
      go_ret
      exact ⟨a1, rfl, h1.back hB⟩
end Go.Proofs.YtancpkegjgmlmaaDoor
