/-
  Layer 1's texts: the reference's tenth.
-/
import Derived.Test.YtancpkegjgmlmaaDoorWTD
import Derived.Test.YtancpkegjgmlmaaDoorW3
namespace Go.Proofs.YtancpkegjgmlmaaDoor
open Go.RowKit
set_option linter.unusedVariables false

set_option maxHeartbeats 4000000 in
theorem tenth_any (b1 o1 n cap X y : Nat) (w : World) (hm : n ≤ 70368744177664) (hn : 0 < n) (hy : 2 ≤ y) (hy16 : y ≤ 16) (hS : Seg w (some ⟨b1, o1, none⟩) X n) :
    Calls Tryd.prog 45 #[.slice (some ⟨b1, o1, none⟩) n cap, .int .i64 y] w fun e w' => ∃ aq, e = .returned (.tuple #[.slice aq (ln (X / y)) (ln (X / y)), .int .i64 ((X % y : Nat) : Int)]) ∧ New w w' aq (X / y) (ln (X / y)) := by
  have hb1 := hS.lt hn
  have hZ : X / y < BB ^ n := Nat.lt_of_le_of_lt (Nat.div_le_self _ _) hS.1
  have HZ : Hid (X / y < BB ^ n) := hZ
  have m0 : IntKind.u64.wrap (y : Int) = (y : Int) := wrapU (by omega)
  clear hZ
  go_enter Tryd.func45, Tryd.ntmps45
  go_wp2_with (at_make; refine mk_law _ rfl _ _ rfl _ n rfl rfl rfl hm ?_; intro w1 hnew hrow)
  have hlt1 := hrow.lt
  go_loopw [7, 8] (fun c i wr => ∃ k : Nat, k ≤ n ∧ i = .int .i64 ((k : Int) - 1) ∧ c = .int .u64 (rcy X y k : Nat) ∧ Wr w.heap.size 0 (0 + n) w1 wr ∧ Seg wr (some ⟨w.heap.size, 0, none⟩) (mix 0 (X / y) k) n) (fun _ i _ => (intOf i + 1).toNat)
  case atStart => exact ⟨n, Nat.le_refl _, rfl, by unfold rcy; rw [div_big hS.1, Nat.zero_mod]; rfl, Wr.refl _ _ _ _, by rw [mix_full HZ.out (BBp n)]; exact hnew.seg⟩
  case round =>
    obtain ⟨k, hk, rfl, rfl, hwr, hseg⟩ := hrel
    have hB : Below w.heap.size w wr := hnew.below.trans (hwr.below (Nat.le_refl _) hnew.below.size)
    by_cases hlt : 0 < k
    · obtain ⟨j, rfl⟩ : ∃ j, k = j + 1 := ⟨k - 1, by omega⟩
      have hcast : ((j + 1 : Nat) : Int) - 1 = (j : Nat) := by omega
      rw [hcast]
      have hcy := rcy_lt (show 0 < y by omega) X (j + 1)
      have hcx := hseg.cells j (by omega)
      rw [Nat.zero_add] at hcx
      have hfz := fun o => (hwr.row hrow).frozen o
      have hcell := (hS.below hB (Nat.le_refl _)).cells j (by omega)
      have h2 := dg_lt X j
      obtain ⟨t, ht⟩ : ∃ t, t = rcy X y (j + 1) * 4294967296 + dg X j := ⟨_, rfl⟩
      have htl : t < 18446744073709551616 := by omega
      have e0 : bits BinOp.or IntKind.u64 (((rcy X y (j + 1) : Nat) : Int) * 4294967296) ((dg X j : Nat) : Int) = (t : Nat) := by rw [ht]; exact or_high (by omega) h2
      have E1 : Hid (t / y % 4294967296 = dg (X / y) j) := by show _ = _; rw [ht]; exact lim_dg X y j
      have E2 : Hid (t % y = rcy X y j) := by show _ = _; rw [ht]; exact lim_cy X y j
      have hyz : (1 : Int) ≤ (y : Int) := by omega
      have HW := wrap_div (b := y) htl
      have hc32 : rcy X y (j + 1) < 4294967296 := by omega
      clear hcy ht
      go_wp2
      go_roundw
      case rel =>
        have e1 := E1.out
        refine ⟨j, by omega, by go_num, ?_, ?_, ?_⟩
        · rw [← E2.out]; simp
        · have := hwr.setCell (0 + j) (by omega) (by omega) (.int .u32 (((t / y : Nat) : Int) % 4294967296))
          rw [Nat.zero_add] at this
          simpa using this
        · have := hseg.setDown (by omega) HZ.out (v := ((t / y : Nat) : Int) % 4294967296) (by rw [← e1]; simp)
          rw [Nat.zero_add] at this
          simpa using this
      case measure => simp [intOf]
    · have hk0 : k = 0 := by omega
      subst hk0
      rw [mix_zero] at hseg
      have hr0 : rcy X y 0 = X % y := by unfold rcy; rw [Nat.pow_zero, Nat.div_one]
      obtain ⟨R, hR⟩ : ∃ R, X % y = R := ⟨_, rfl⟩
      obtain ⟨D, hD⟩ : ∃ D, X / y = D := ⟨_, rfl⟩
      have hr32 : R < 16 := by rw [← hR]; exact Nat.lt_of_lt_of_le (Nat.mod_lt _ (by omega)) hy16
      rw [hr0, hR]
      rw [hD] at hseg
      have wR : IntKind.i64.wrap (R : Int) = (R : Int) := by rw [IntKind.wrap_i64]; omega
      have HNm := hide' (rNorm_any (some ⟨w.heap.size, 0, none⟩) n n D wr (by omega) hseg)
      have HRR := hide' hR
      have HDD := hide' hD
      clear hr0 hR hD HZ
      go_wp2_with fail
      refine HNm.out.mono ?_
      rintro e w4 ⟨a4, rfl, h4⟩
      go_wp2
      go_ret2
      rw [HRR.out, HDD.out]
      exact ⟨a4, rfl, h4.back hB⟩
end Go.Proofs.YtancpkegjgmlmaaDoor
