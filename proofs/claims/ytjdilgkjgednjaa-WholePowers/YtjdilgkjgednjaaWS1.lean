/-
  Layer 2's Shift: whether a low bit is 1.
-/
import Derived.Test.YtjdilgkjgednjaaW5
import Derived.Test.YtjdilgkjgednjaaW8
import Derived.Test.YtjdilgkjgednjaaW9
import Derived.Test.YtjdilgkjgednjaaWI1
import Derived.Test.YtjdilgkjgednjaaWIm
namespace Go.Proofs.Ytjdilgkjgednjaa
open Go.RowKit
set_option linter.unusedVariables false

theorem low_split (X q r : Nat) (hr : r ≤ 32) : X % 2 ^ (32 * q + r) = X % BB ^ q + BB ^ q * (dg X q % 2 ^ r) := by
  rw [Nat.pow_add, ← BB_two', Nat.mod_mul]
  unfold dg
  have h : 2 ^ r ∣ BB := by
    rw [show BB = 2 ^ 32 by rw [BB_eq]]
    exact Nat.pow_dvd_pow 2 hr
  rw [Nat.mod_mod_of_dvd _ h]
theorem low_zero {X q r : Nat} (hr : r ≤ 32) : X % 2 ^ (32 * q + r) = 0 ↔ X % BB ^ q = 0 ∧ dg X q % 2 ^ r = 0 := by
  rw [low_split X q r hr]
  have hb := BBp q
  constructor
  · intro h
    have h1 := Nat.add_eq_zero_iff.1 h
    refine ⟨h1.1, ?_⟩
    rcases Nat.mul_eq_zero.1 h1.2 with h3 | h3
    · omega
    · exact h3
  · rintro ⟨h1, h2⟩
    rw [h1, h2, Nat.mul_zero]
theorem shl_zero {d r : Nat} (hr : r ≤ 32) : d * 2 ^ (32 - r) % 4294967296 = d % 2 ^ r * 2 ^ (32 - r) := by
  have h : 4294967296 = 2 ^ r * 2 ^ (32 - r) := by rw [← Nat.pow_add, show r + (32 - r) = 32 by omega]
  rw [h, Nat.mul_mod_mul_right]
set_option maxRecDepth 30000 in
theorem sl_hm (ao : Option Addr) (n cap hi : Nat) (H : Int) (hH : H = (hi : Int)) (h2 : hi ≤ cap) (w : World) :
    (Instr.slice 23 (.slice ao n cap) none (some (.int .i64 H)) (some (.int .i64 H))).run Try.prog w = .ok (.slice ao hi hi) w := by
  subst hH
  rw [run_slice_hm (P := Try.prog) w 23 _ n cap A_under_nat .i64 .i64 _ _ (by omega) (by omega) (by omega)]
  have es : (sizeOf (Try.prog.elem 23)).run Try.prog w = .ok 1 w := by kernel_rfl
  rw [es]
  simp only [Result.andThen, sliced, Int.toNat_natCast, Nat.zero_mul, Nat.sub_zero]
  have ea : ao.map (fun a => a.add 0) = ao := by cases ao <;> simp [Addr.add]
  rw [ea]; simp
set_option maxRecDepth 30000 in
theorem sl_lhm (b off n cap lo : Nat) (L H : Int) (hL : L = (lo : Int)) (hH : H = (n : Int)) (h2 : lo < n) (h3 : n ≤ cap) (w : World) :
    (Instr.slice 23 (.slice (some ⟨b, off, none⟩) n cap) (some (.int .i64 L)) (some (.int .i64 H)) (some (.int .i64 H))).run Try.prog w = .ok (.slice (some ⟨b, off + lo, none⟩) (n - lo) (n - lo)) w := by
  subst hL hH
  rw [run_slice_lhm (P := Try.prog) w 23 _ n cap A_under_nat .i64 .i64 .i64 _ _ _ (by omega) (by omega) (by omega) (by omega)]
  have es : (sizeOf (Try.prog.elem 23)).run Try.prog w = .ok 1 w := by kernel_rfl
  rw [es]
  simp only [Result.andThen, sliced, Int.toNat_natCast, Nat.mul_one]
  rw [if_neg (by omega)]
  simp only [Option.map_some]
  have ea : (Addr.mk b off none).add lo = ⟨b, off + lo, none⟩ := by unfold Addr.add; split <;> simp_all
  rw [ea]
set_option maxRecDepth 30000 in
theorem sl_nnn (ao : Option Addr) (n cap : Nat) (H : Int) (hH : H = (n : Int)) (h3 : n ≤ cap) (w : World) :
    (Instr.slice 23 (.slice ao n cap) (some (.int .i64 H)) (some (.int .i64 H)) (some (.int .i64 H))).run Try.prog w = .ok (.slice ao 0 0) w := by
  subst hH
  rw [run_slice_lhm (P := Try.prog) w 23 _ n cap A_under_nat .i64 .i64 .i64 _ _ _ (by omega) (by omega) (by omega) (by omega)]
  have es : (sizeOf (Try.prog.elem 23)).run Try.prog w = .ok 1 w := by kernel_rfl
  rw [es]
  simp only [Result.andThen, sliced, Int.toNat_natCast, Nat.mul_one]
  simp
set_option maxHeartbeats 2000000 in
set_option maxRecDepth 30000 in
/-- few limbs: all of them lie below -/
theorem anyBelow_all (ao : Option Addr) (n cap X k q : Nat) (w : World) (hc : n ≤ cap) (hm : n ≤ 70368744177660) (hq : k / 32 = q) (hqn : n ≤ q) (hk : k ≤ 1048576) (hS : Seg w ao X n) :
    Calls Try.prog 24 #[.slice ao n cap, .int .i64 (k : Int)] w fun e w' => e = .returned (.bool (decide (X % 2 ^ k ≠ 0))) ∧ w' = w := by
  have hX : X % 2 ^ k = X := Nat.mod_eq_of_lt (Nat.lt_of_lt_of_le hS.1 (by rw [BB_two']; exact Nat.pow_le_pow_right (by omega) (by omega)))
  have hS2 := hS.take n (Nat.le_refl _)
  rw [Nat.mod_eq_of_lt hS.1] at hS2
  have hqi : (k : Int) / 32 = (q : Int) := by omega
  have hmn : min (q : Int) (n : Int) = (n : Int) := by omega
  have hs1 := fun w => sl_hm ao n cap n (n : Int) rfl hc w
  have hs2 := fun w => sl_nnn ao n cap (n : Int) rfl hc w
  by_cases h0 : X = 0
  · have hd : decide (X % 2 ^ k ≠ 0) = false := by rw [hX, h0]; simp
    have hbl : bl X = 0 := by rw [h0]; exact bl_zero
    rw [hd]
    have HB := hide' (Bits_any ao n n X w (Nat.le_refl _) (by omega) hS)
    rw [hbl] at HB
    clear hX hq hd
    go_enter Try.func24, Try.ntmps24
    go_wp2_with fail
    refine HB.out.mono ?_
    rintro e w1 ⟨rfl, rfl⟩
    go_wp2
    go_ret
    exact ⟨rfl, rfl⟩
  · have hd : decide (X % 2 ^ k ≠ 0) = true := by rw [hX]; simp [h0]
    have hbl : 0 < bl X := by rw [bl_pos h0]; omega
    have hbi : (0 : Int) < (bl X : Int) := by omega
    rw [hd]
    have HB := hide' (Bits_any ao n n X w (Nat.le_refl _) (by omega) hS)
    clear hX hq hd
    go_enter Try.func24, Try.ntmps24
    go_wp2_with fail
    refine HB.out.mono ?_
    rintro e w1 ⟨rfl, rfl⟩
    go_wp2
    go_ret
    exact ⟨rfl, rfl⟩
set_option maxHeartbeats 2000000 in
set_option maxRecDepth 30000 in
theorem anyBelow_some (ao : Option Addr) (n cap X k q r : Nat) (w : World) (hc : n ≤ cap) (hm : n ≤ 70368744177660) (hq : k / 32 = q) (hr : k % 32 = r) (hqn : q < n) (hk : k ≤ 1048576) (hS : Seg w ao X n) :
    Calls Try.prog 24 #[.slice ao n cap, .int .i64 (k : Int)] w fun e w' => e = .returned (.bool (decide (X % 2 ^ k ≠ 0))) ∧ w' = w := by
  have hek : k = 32 * q + r := by omega
  have hr32 : r < 32 := by omega
  have hz := low_zero (X := X) (q := q) (r := r) (by omega)
  rw [← hek] at hz
  have hS2 := hS.take q (by omega)
  obtain ⟨b, off, rfl, hb', hcell⟩ := hS.2 (by omega)
  have hqi : (k : Int) / 32 = (q : Int) := by omega
  have hri : (k : Int) % 32 = (r : Int) := by omega
  have hmn : min (q : Int) (n : Int) = (q : Int) := by omega
  have hs1 := fun w => sl_hm (some ⟨b, off, none⟩) n cap q (q : Int) rfl (by omega) w
  have hs2 := fun w => sl_lhm b off n cap q (q : Int) (n : Int) rfl rfl hqn hc w
  have HB := hide' (Bits_any (some ⟨b, off, none⟩) q q (X % BB ^ q) w (Nat.le_refl _) (by omega) hS2)
  by_cases h0 : X % BB ^ q = 0
  · have hbl : bl (X % BB ^ q) = 0 := by rw [h0]; exact bl_zero
    rw [hbl] at HB
    have hd1 := dg_lt X q
    have hcq := hS.cells q hqn
    obtain ⟨d, hd⟩ : ∃ d, dg X q = d := ⟨_, rfl⟩
    rw [hd] at hcq hd1 hz
    have hsh : IntKind.u32.wrap ((d : Int) * 2 ^ (32 - r)) = ((d % 2 ^ r * 2 ^ (32 - r) : Nat) : Int) := by
      rw [IntKind.wrap_u32, ← shl_zero (by omega)]
      rw [Int.natCast_emod, Int.natCast_mul, Int.natCast_pow]
      rfl
    have hlen : (0 : Int) < ((n - q : Nat) : Int) := by omega
    have h32 : (32 : Int) - (r : Int) = ((32 - r : Nat) : Int) := by omega
    have hne : (((d % 2 ^ r * 2 ^ (32 - r) : Nat) : Int) != 0) = decide (X % 2 ^ k ≠ 0) := by
      rw [Bool.eq_iff_iff, bne_iff_ne, decide_eq_true_eq]
      have hp := Nat.two_pow_pos (32 - r)
      constructor
      · intro h1 h2
        apply h1
        rw [(hz.1 h2).2, Nat.zero_mul]; rfl
      · intro h1 h2
        apply h1
        refine hz.2 ⟨h0, ?_⟩
        have h3 : d % 2 ^ r * 2 ^ (32 - r) = 0 := by omega
        rcases Nat.mul_eq_zero.1 h3 with h4 | h4
        · exact h4
        · omega
    obtain ⟨u, hu⟩ : ∃ u, d % 2 ^ r * 2 ^ (32 - r) = u := ⟨_, rfl⟩
    rw [hu] at hsh hne
    obtain ⟨c, hcc⟩ : ∃ c, decide (X % 2 ^ k ≠ 0) = c := ⟨_, rfl⟩
    rw [hcc] at hne ⊢
    clear hz hS hS2 h0 hcell hd hu hcc hq hr hek hbl
    go_enter Try.func24, Try.ntmps24
    go_wp2_with fail
    refine HB.out.mono ?_
    rintro e w1 ⟨rfl, rfl⟩
    go_wp2
    go_ret
    exact ⟨by first | rfl | simp [hne], rfl⟩
  · have hd : decide (X % 2 ^ k ≠ 0) = true := by rw [decide_eq_true_eq]; intro h; exact h0 (hz.1 h).1
    have hbl : 0 < bl (X % BB ^ q) := by rw [bl_pos h0]; omega
    have hbi : (0 : Int) < (bl (X % BB ^ q) : Int) := by omega
    rw [hd]
    clear hz hS hS2 h0 hcell hd hek hq hr
    go_enter Try.func24, Try.ntmps24
    go_wp2_with fail
    refine HB.out.mono ?_
    rintro e w1 ⟨rfl, rfl⟩
    go_wp2
    go_ret
    exact ⟨rfl, rfl⟩
theorem anyBelow_is (ao : Option Addr) (n cap X k : Nat) (w : World) (hc : n ≤ cap) (hm : n ≤ 70368744177660) (hk : k ≤ 1048576) (hS : Seg w ao X n) :
    Calls Try.prog 24 #[.slice ao n cap, .int .i64 (k : Int)] w fun e w' => e = .returned (.bool (decide (X % 2 ^ k ≠ 0))) ∧ w' = w := by
  by_cases h : n ≤ k / 32
  · exact anyBelow_all ao n cap X k _ w hc hm rfl h hk hS
  · exact anyBelow_some ao n cap X k _ _ w hc hm rfl rfl (by omega) hk hS
end Go.Proofs.Ytjdilgkjgednjaa
