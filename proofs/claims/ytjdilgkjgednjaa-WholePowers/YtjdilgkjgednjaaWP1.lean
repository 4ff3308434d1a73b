/-
  Layer 2's Pow, of both sides.
-/
import Derived.Test.YtjdilgkjgednjaaW12
import Derived.Test.YtjdilgkjgednjaaWS2
import Derived.Test.YtjdilgkjgednjaaWI4
import Derived.Test.YtjdilgkjgednjaaWIm
namespace Go.Proofs.Ytjdilgkjgednjaa
open Go.RowKit
set_option linter.unusedVariables false

theorem Fre.finP {w w6 w' : World} {lo : Nat} {a : Option Addr} {Z n : Nat} (h : Fre lo w6 a Z n) (hb : Below w.heap.size w w6) (hl : w.heap.size ≤ lo) (hM : Mid w.heap.size lo w6 w') : New w w' a Z n := by
  refine ⟨(h.mid hM).seg, hb.trans (hM.below hb.size), fun hn => ?_⟩
  obtain ⟨b, off, e, hlt, hr⟩ := (h.mid hM).fresh hn
  exact ⟨b, off, e, Nat.le_trans hl hlt, hr⟩

/-- a power's sign -/
def psn (s : Bool) (n : Nat) : Bool := if n % 2 = 0 then false else s
theorem psn_half {s : Bool} {X n h : Nat} (hh : n / 2 = h) : sg (psn s h) (X ^ h) * sg (psn s h) (X ^ h) = sg false (X ^ (h + h)) := by
  rw [sg_mul, ← Nat.pow_add]
  cases psn s h <;> rfl
theorem psn_even {s : Bool} {X n h : Nat} (hh : n / 2 = h) (he : n % 2 = 0) : sg false (X ^ (h + h)) = sg (psn s n) (X ^ n) := by
  unfold psn
  rw [if_pos he, show h + h = n by omega]
theorem psn_odd {s : Bool} {X n h : Nat} (hh : n / 2 = h) (he : n % 2 = 1) : sg false (X ^ (h + h)) * sg s X = sg (psn s n) (X ^ n) := by
  unfold psn
  rw [if_neg (by omega), sg_mul, ← Nat.pow_succ, show Nat.succ (h + h) = n by omega]
  cases s <;> rfl
set_option maxHeartbeats 1000000 in
theorem Pow_no (ao : Option Addr) (m cap : Nat) (z : Int) (w : World) (h : z < 0 ∨ 4096 < z) :
    Calls Try.prog 38 #[.slice ao m cap, .int .i64 z] w fun e w' => e = .returned (.tuple #[.slice none 0 0, .int .i64 13]) ∧ w = w' := by
  rcases h with h | h
  · go_enter Try.func38, Try.ntmps38
    go_wp2
    go_ret2
    exact ⟨rfl, rfl⟩
  · have h2 : ¬ z < 0 := by omega
    go_enter Try.func38, Try.ntmps38
    go_wp2
    go_ret2
    exact ⟨rfl, rfl⟩
set_option maxHeartbeats 4000000 in
set_option maxRecDepth 100000 in
theorem wPow_no (s : Bool) (ao : Option Addr) (n cap X : Nat) (w : World) (hc : n ≤ cap) (hm : n ≤ 35184372088832) (hS : Seg w ao X n) (z : Int) (hz : z < 0 ∨ 4096 < z) : Calls Try.prog 13 #[.agg #[.bool s, .slice ao n cap], .int .i64 z] w fun e w' => e = .returned (.tuple #[.agg #[.bool false, .slice none 0 0], .int .i64 13]) ∧ Below w.heap.size w w' := by
  have H1 := hide' (fun w' => Pow_no ao n cap z w' hz)
  clear hz
  go_enter Try.func13, Try.ntmps13
  go_wp2_with fail
  obtain ⟨W, hW⟩ : ∃ W, ((w.alloc (.cells #[.bool s, .slice ao n cap] 25)).alloc (.cells #[.bool false, .slice none 0 0] 25)) = W := ⟨_, rfl⟩
  have q00 : W.cell? ⟨w.heap.size, 0, none⟩ = some (.bool s) := by subst hW; go_simp
  have q01 : W.cell? ⟨w.heap.size, 1, none⟩ = some (.slice ao n cap) := by subst hW; go_simp
  have r00 : W.cell? ⟨w.heap.size + 1, 0, none⟩ = some (.bool false) := by subst hW; go_simp
  have r01 : W.cell? ⟨w.heap.size + 1, 1, none⟩ = some (.slice none 0 0) := by subst hW; go_simp
  have hB : Below w.heap.size w W := by subst hW; exact (((Below.refl _ _).alloc (by (try simp only [World.size_alloc]); omega) _).alloc (by (try simp only [World.size_alloc]); omega) _)
  have hR0 : Row W (w.heap.size + 1) := by
    have := row_new ((w.alloc (.cells #[.bool s, .slice ao n cap] 25))) #[.bool false, .slice none 0 0] 25
    try simp only [World.size_alloc] at this
    subst hW; exact this
  have hz : W.heap.size = w.heap.size + 1 + 1 := by subst hW; simp only [World.size_alloc]
  rw [hW]
  clear hW
  have hBW : Below W.heap.size W W := Below.refl _ _
  refine (H1.out _).mono ?_
  rintro e w41 ⟨rfl, rfl⟩
  have fz0 := fun o => hR0.frozen o
  go_wp2
  all_goals refine bodyPost_ret (v := .tuple #[.agg #[.bool false, .slice none 0 0], .int .i64 13]) (by rw [results_ctS rfl]; go_simp) rfl ?_
  all_goals exact ⟨rfl, by first | exact ((bsetS (bsetS (hB.trans (hBW.mono hB.size)) (by omega)) (by omega))) | exact hB.trans (hBW.mono hB.size)⟩

set_option maxHeartbeats 4000000 in
set_option maxRecDepth 100000 in
theorem wPow_even (s : Bool) (ao : Option Addr) (n cap X : Nat) (w : World) (hc : n ≤ cap) (hm : n ≤ 35184372088832) (hS : Seg w ao X n) (k : Nat) (hk : k ≤ 4096) (hmn : n * k ≤ 35184372088831) (hr : k % 2 = 0) (Z : Int) (hZ : sg (psn s k) (X ^ k) = Z) : Calls Try.prog 13 #[.agg #[.bool s, .slice ao n cap], .int .i64 (k : Int)] w fun e w' => ∃ a', e = .returned (.tuple #[.agg #[.bool (ng Z), .slice a' (ln (am Z)) (ln (am Z))], .int .i64 0]) ∧ New w w' a' (am Z) (ln (am Z)) := by
  have hZ2 : sg false (X ^ k) = Z := by rw [← hZ]; unfold psn; rw [if_pos (by omega)]
  have hV := ln_pow hS.1 k
  have H1' := fun w' h => Pow_any ao n cap X k w' hc hm hk hmn h
  obtain ⟨V, hV2⟩ : ∃ V, X ^ k = V := ⟨_, rfl⟩
  rw [hV2] at H1' hZ2 hV
  have H1 := hide' H1'
  have HZ := hide' hZ2
  have hri : (k : Int) % 2 = 0 := by omega
  have hrt : Int.tmod (k : Int) 2 = 0 := by rw [Int.tmod_eq_emod_of_nonneg (by omega)]; omega
  clear H1' hZ hZ2 hV2 hr
  go_enter Try.func13, Try.ntmps13
  go_wp2_with fail
  obtain ⟨W, hW⟩ : ∃ W, ((w.alloc (.cells #[.bool s, .slice ao n cap] 25)).alloc (.cells #[.bool false, .slice none 0 0] 25)) = W := ⟨_, rfl⟩
  have q00 : W.cell? ⟨w.heap.size, 0, none⟩ = some (.bool s) := by subst hW; go_simp
  have q01 : W.cell? ⟨w.heap.size, 1, none⟩ = some (.slice ao n cap) := by subst hW; go_simp
  have r00 : W.cell? ⟨w.heap.size + 1, 0, none⟩ = some (.bool false) := by subst hW; go_simp
  have r01 : W.cell? ⟨w.heap.size + 1, 1, none⟩ = some (.slice none 0 0) := by subst hW; go_simp
  have hB : Below w.heap.size w W := by subst hW; exact (((Below.refl _ _).alloc (by (try simp only [World.size_alloc]); omega) _).alloc (by (try simp only [World.size_alloc]); omega) _)
  have hR0 : Row W (w.heap.size + 1) := by
    have := row_new ((w.alloc (.cells #[.bool s, .slice ao n cap] 25))) #[.bool false, .slice none 0 0] 25
    try simp only [World.size_alloc] at this
    subst hW; exact this
  have hz : W.heap.size = w.heap.size + 1 + 1 := by subst hW; simp only [World.size_alloc]
  rw [hW]
  clear hW
  have hBW : Below W.heap.size W W := Below.refl _ _
  refine (H1.out _ (sb hS hB hBW)).mono ?_
  rintro e w41 ⟨p41, rfl, hp41⟩
  have b41 := hp41.below
  replace hp41 := hp41.back hBW
  replace hBW := hBW.trans (b41.mono hBW.size)
  replace q00 := below_cell b41 q00
  replace q01 := below_cell b41 q01
  replace r00 := below_cell b41 r00
  replace r01 := below_cell b41 r01
  replace hR0 := below_row b41 hR0
  go_wp2_with fail
  refine (signed0 p41 (ln V) (ln V) _ (by omega)).mono ?_
  rintro e w42 ⟨rfl, b42⟩
  replace hBW := hBW.trans (b42.mono hBW.size)
  replace q00 := below_cell b42 q00
  replace q01 := below_cell b42 q01
  replace r00 := below_cell b42 r00
  replace r01 := below_cell b42 r01
  replace hR0 := below_row b42 hR0
  replace hp41 := hp41.later b42
  have fz0 := fun o => hR0.frozen o
  go_wp2
  all_goals refine bodyPost_ret (v := .tuple #[.agg #[.bool false, .slice p41 (ln V) (ln V)], .int .i64 0]) (by rw [results_ctS rfl]; go_simp) rfl ?_
  all_goals exact ⟨p41, by rw [← HZ.out, am_sg, ng_sg, Bool.false_and], NewI (hp41.mid hB ((((Mid.refl _ _ _).set _ _ (by omega) (by omega) _).set _ _ (by omega) (by omega) _))) HZ.out⟩

set_option maxHeartbeats 4000000 in
set_option maxRecDepth 100000 in
theorem wPow_odd (s : Bool) (ao : Option Addr) (n cap X : Nat) (w : World) (hc : n ≤ cap) (hm : n ≤ 35184372088832) (hS : Seg w ao X n) (k : Nat) (hk : k ≤ 4096) (hmn : n * k ≤ 35184372088831) (hr : k % 2 = 1) (Z : Int) (hZ : sg (psn s k) (X ^ k) = Z) : Calls Try.prog 13 #[.agg #[.bool s, .slice ao n cap], .int .i64 (k : Int)] w fun e w' => ∃ a', e = .returned (.tuple #[.agg #[.bool (ng Z), .slice a' (ln (am Z)) (ln (am Z))], .int .i64 0]) ∧ New w w' a' (am Z) (ln (am Z)) := by
  have hZ2 : sg s (X ^ k) = Z := by rw [← hZ]; unfold psn; rw [if_neg (by omega)]
  have hV := ln_pow hS.1 k
  have H1' := fun w' h => Pow_any ao n cap X k w' hc hm hk hmn h
  obtain ⟨V, hV2⟩ : ∃ V, X ^ k = V := ⟨_, rfl⟩
  rw [hV2] at H1' hZ2 hV
  have H1 := hide' H1'
  have HZ := hide' hZ2
  have hri : (k : Int) % 2 = 1 := by omega
  have hrt : Int.tmod (k : Int) 2 = 1 := by rw [Int.tmod_eq_emod_of_nonneg (by omega)]; omega
  clear H1' hZ hZ2 hV2 hr
  go_enter Try.func13, Try.ntmps13
  go_wp2_with fail
  obtain ⟨W, hW⟩ : ∃ W, ((w.alloc (.cells #[.bool s, .slice ao n cap] 25)).alloc (.cells #[.bool false, .slice none 0 0] 25)) = W := ⟨_, rfl⟩
  have q00 : W.cell? ⟨w.heap.size, 0, none⟩ = some (.bool s) := by subst hW; go_simp
  have q01 : W.cell? ⟨w.heap.size, 1, none⟩ = some (.slice ao n cap) := by subst hW; go_simp
  have r00 : W.cell? ⟨w.heap.size + 1, 0, none⟩ = some (.bool false) := by subst hW; go_simp
  have r01 : W.cell? ⟨w.heap.size + 1, 1, none⟩ = some (.slice none 0 0) := by subst hW; go_simp
  have hB : Below w.heap.size w W := by subst hW; exact (((Below.refl _ _).alloc (by (try simp only [World.size_alloc]); omega) _).alloc (by (try simp only [World.size_alloc]); omega) _)
  have hR0 : Row W (w.heap.size + 1) := by
    have := row_new ((w.alloc (.cells #[.bool s, .slice ao n cap] 25))) #[.bool false, .slice none 0 0] 25
    try simp only [World.size_alloc] at this
    subst hW; exact this
  have hz : W.heap.size = w.heap.size + 1 + 1 := by subst hW; simp only [World.size_alloc]
  rw [hW]
  clear hW
  have hBW : Below W.heap.size W W := Below.refl _ _
  refine (H1.out _ (sb hS hB hBW)).mono ?_
  rintro e w41 ⟨p41, rfl, hp41⟩
  have b41 := hp41.below
  replace hp41 := hp41.back hBW
  replace hBW := hBW.trans (b41.mono hBW.size)
  replace q00 := below_cell b41 q00
  replace q01 := below_cell b41 q01
  replace r00 := below_cell b41 r00
  replace r01 := below_cell b41 r01
  replace hR0 := below_row b41 hR0
  go_wp2_with fail
  refine (side_any s _ _).mono ?_
  rintro e w42 ⟨rfl, b42⟩
  replace hBW := hBW.trans (b42.mono hBW.size)
  replace q00 := below_cell b42 q00
  replace q01 := below_cell b42 q01
  replace r00 := below_cell b42 r00
  replace r01 := below_cell b42 r01
  replace hR0 := below_row b42 hR0
  replace hp41 := hp41.later b42
  go_wp2_with fail
  refine (signed1 p41 (ln V) (ln V) s _ (by omega)).mono ?_
  rintro e w43 ⟨rfl, b43⟩
  replace hBW := hBW.trans (b43.mono hBW.size)
  replace q00 := below_cell b43 q00
  replace q01 := below_cell b43 q01
  replace r00 := below_cell b43 r00
  replace r01 := below_cell b43 r01
  replace hR0 := below_row b43 hR0
  replace hp41 := hp41.later b43
  have fz0 := fun o => hR0.frozen o
  go_wp2
  all_goals refine bodyPost_ret (v := .tuple #[.agg #[.bool (s && decide (0 < ln V)), .slice p41 (ln V) (ln V)], .int .i64 0]) (by rw [results_ctS rfl]; go_simp) rfl ?_
  all_goals exact ⟨p41, res_eqS HZ.out, NewI (hp41.mid hB ((((Mid.refl _ _ _).set _ _ (by omega) (by omega) _).set _ _ (by omega) (by omega) _))) HZ.out⟩

theorem wPow_is (s : Bool) (ao : Option Addr) (n cap X : Nat) (w : World) (hc : n ≤ cap) (hm : n ≤ 35184372088832) (hS : Seg w ao X n) (k : Nat) (hk : k ≤ 4096) (hmn : n * k ≤ 35184372088831) (Z : Int) (hZ : sg (psn s k) (X ^ k) = Z) :
    Calls Try.prog 13 #[.agg #[.bool s, .slice ao n cap], .int .i64 (k : Int)] w fun e w' => ∃ a', e = .returned (.tuple #[.agg #[.bool (ng Z), .slice a' (ln (am Z)) (ln (am Z))], .int .i64 0]) ∧ New w w' a' (am Z) (ln (am Z)) := by
  by_cases h : k % 2 = 0
  · exact wPow_even s ao n cap X w hc hm hS k hk hmn h Z hZ
  · exact wPow_odd s ao n cap X w hc hm hS k hk hmn (by omega) Z hZ
set_option maxHeartbeats 4000000 in
set_option maxRecDepth 100000 in
theorem vPow_lo (s : Bool) (ao : Option Addr) (n cap X : Nat) (w : World) (hm : n ≤ 35184372088832) (hS : Seg w ao X n) (z : Int) (hz : z < 0) : Calls Try.prog 14 #[.agg #[.bool s, .slice ao n cap], .int .i64 z] w fun e w' => e = .returned (.tuple #[.agg #[.bool false, .slice none 0 0], .int .i64 13]) ∧ Below w.heap.size w w' := by
  go_enter Try.func14, Try.ntmps14
  go_wp2_with fail
  obtain ⟨W, hW⟩ : ∃ W, ((w.alloc (.cells #[.bool s, .slice ao n cap] 25)).alloc (.cells #[.bool false, .slice none 0 0] 25)) = W := ⟨_, rfl⟩
  have q00 : W.cell? ⟨w.heap.size, 0, none⟩ = some (.bool s) := by subst hW; go_simp
  have q01 : W.cell? ⟨w.heap.size, 1, none⟩ = some (.slice ao n cap) := by subst hW; go_simp
  have r00 : W.cell? ⟨w.heap.size + 1, 0, none⟩ = some (.bool false) := by subst hW; go_simp
  have r01 : W.cell? ⟨w.heap.size + 1, 1, none⟩ = some (.slice none 0 0) := by subst hW; go_simp
  have hB : Below w.heap.size w W := by subst hW; exact (((Below.refl _ _).alloc (by (try simp only [World.size_alloc]); omega) _).alloc (by (try simp only [World.size_alloc]); omega) _)
  have hR0 : Row W (w.heap.size + 1) := by
    have := row_new ((w.alloc (.cells #[.bool s, .slice ao n cap] 25))) #[.bool false, .slice none 0 0] 25
    try simp only [World.size_alloc] at this
    subst hW; exact this
  have hz : W.heap.size = w.heap.size + 1 + 1 := by subst hW; simp only [World.size_alloc]
  rw [hW]
  clear hW
  have hBW : Below W.heap.size W W := Below.refl _ _
  have fz0 := fun o => hR0.frozen o
  go_wp2
  all_goals refine bodyPost_ret (v := .tuple #[.agg #[.bool false, .slice none 0 0], .int .i64 13]) (by rw [results_ctS rfl]; go_simp) rfl ?_
  all_goals exact ⟨rfl, by first | exact hB.trans (hBW.mono hB.size) | exact ((bsetS (bsetS (hB.trans (hBW.mono hB.size)) (by omega)) (by omega)))⟩

set_option maxHeartbeats 4000000 in
set_option maxRecDepth 100000 in
theorem vPow_hi (s : Bool) (ao : Option Addr) (n cap X : Nat) (w : World) (hm : n ≤ 35184372088832) (hS : Seg w ao X n) (z : Int) (hz : 4096 < z) : Calls Try.prog 14 #[.agg #[.bool s, .slice ao n cap], .int .i64 z] w fun e w' => e = .returned (.tuple #[.agg #[.bool false, .slice none 0 0], .int .i64 13]) ∧ Below w.heap.size w w' := by
  have hz2 : ¬ (z < 0) := by omega
  go_enter Try.func14, Try.ntmps14
  go_wp2_with fail
  obtain ⟨W, hW⟩ : ∃ W, ((w.alloc (.cells #[.bool s, .slice ao n cap] 25)).alloc (.cells #[.bool false, .slice none 0 0] 25)) = W := ⟨_, rfl⟩
  have q00 : W.cell? ⟨w.heap.size, 0, none⟩ = some (.bool s) := by subst hW; go_simp
  have q01 : W.cell? ⟨w.heap.size, 1, none⟩ = some (.slice ao n cap) := by subst hW; go_simp
  have r00 : W.cell? ⟨w.heap.size + 1, 0, none⟩ = some (.bool false) := by subst hW; go_simp
  have r01 : W.cell? ⟨w.heap.size + 1, 1, none⟩ = some (.slice none 0 0) := by subst hW; go_simp
  have hB : Below w.heap.size w W := by subst hW; exact (((Below.refl _ _).alloc (by (try simp only [World.size_alloc]); omega) _).alloc (by (try simp only [World.size_alloc]); omega) _)
  have hR0 : Row W (w.heap.size + 1) := by
    have := row_new ((w.alloc (.cells #[.bool s, .slice ao n cap] 25))) #[.bool false, .slice none 0 0] 25
    try simp only [World.size_alloc] at this
    subst hW; exact this
  have hz : W.heap.size = w.heap.size + 1 + 1 := by subst hW; simp only [World.size_alloc]
  rw [hW]
  clear hW
  have hBW : Below W.heap.size W W := Below.refl _ _
  have fz0 := fun o => hR0.frozen o
  go_wp2
  all_goals refine bodyPost_ret (v := .tuple #[.agg #[.bool false, .slice none 0 0], .int .i64 13]) (by rw [results_ctS rfl]; go_simp) rfl ?_
  all_goals exact ⟨rfl, by first | exact hB.trans (hBW.mono hB.size) | exact ((bsetS (bsetS (hB.trans (hBW.mono hB.size)) (by omega)) (by omega)))⟩

set_option maxHeartbeats 4000000 in
set_option maxRecDepth 100000 in
theorem vPow_zero (s : Bool) (ao : Option Addr) (n cap X : Nat) (w : World) (hm : n ≤ 35184372088832) (hS : Seg w ao X n)  : Calls Try.prog 14 #[.agg #[.bool s, .slice ao n cap], .int .i64 0] w fun e w' => ∃ a', e = .returned (.tuple #[.agg #[.bool (ng 1), .slice a' (ln (am 1)) (ln (am 1))], .int .i64 0]) ∧ New w w' a' (am 1) (ln (am 1)) := by
  go_enter Try.func14, Try.ntmps14
  go_wp2_with fail
  obtain ⟨W, hW⟩ : ∃ W, ((w.alloc (.cells #[.bool s, .slice ao n cap] 25)).alloc (.cells #[.bool false, .slice none 0 0] 25)) = W := ⟨_, rfl⟩
  have q00 : W.cell? ⟨w.heap.size, 0, none⟩ = some (.bool s) := by subst hW; go_simp
  have q01 : W.cell? ⟨w.heap.size, 1, none⟩ = some (.slice ao n cap) := by subst hW; go_simp
  have r00 : W.cell? ⟨w.heap.size + 1, 0, none⟩ = some (.bool false) := by subst hW; go_simp
  have r01 : W.cell? ⟨w.heap.size + 1, 1, none⟩ = some (.slice none 0 0) := by subst hW; go_simp
  have hB : Below w.heap.size w W := by subst hW; exact (((Below.refl _ _).alloc (by (try simp only [World.size_alloc]); omega) _).alloc (by (try simp only [World.size_alloc]); omega) _)
  have hR0 : Row W (w.heap.size + 1) := by
    have := row_new ((w.alloc (.cells #[.bool s, .slice ao n cap] 25))) #[.bool false, .slice none 0 0] 25
    try simp only [World.size_alloc] at this
    subst hW; exact this
  have hz : W.heap.size = w.heap.size + 1 + 1 := by subst hW; simp only [World.size_alloc]
  rw [hW]
  clear hW
  have hBW : Below W.heap.size W W := Below.refl _ _
  refine (vOf_is 1 _ (by omega) (by omega)).mono ?_
  rintro e w41 ⟨p41, rfl, hp41⟩
  have b41 := hp41.below
  replace hp41 := hp41.back hBW
  replace hBW := hBW.trans (b41.mono hBW.size)
  replace q00 := below_cell b41 q00
  replace q01 := below_cell b41 q01
  replace r00 := below_cell b41 r00
  replace r01 := below_cell b41 r01
  replace hR0 := below_row b41 hR0
  have fz0 := fun o => hR0.frozen o
  go_wp2
  all_goals refine bodyPost_ret (v := .tuple #[.agg #[.bool (ng 1), .slice p41 (ln (am 1)) (ln (am 1))], .int .i64 0]) (by rw [results_ctS rfl]; go_simp) rfl ?_
  all_goals exact ⟨p41, rfl, hp41.mid hB ((((Mid.refl _ _ _).set _ _ (by omega) (by omega) _).set _ _ (by omega) (by omega) _))⟩

set_option maxHeartbeats 4000000 in
set_option maxRecDepth 100000 in
theorem vPow_even (s : Bool) (ao : Option Addr) (n cap X : Nat) (w : World) (hm : n ≤ 35184372088832) (hS : Seg w ao X n) (k h : Nat) (h0 : 0 < k) (hk : k ≤ 4096) (hh : k / 2 = h) (hr : k % 2 = 0) (hmn : n * k ≤ 35184372088831) (Zh Zq Z : Int) (lh : ln (am Zh) ≤ 35184372088832) (lq : ln (am Zq) ≤ 35184372088832) (eq : Zh * Zh = Zq) (ez : Zq = Z) (IH : ∀ w', Seg w' ao X n → Calls Try.prog 14 #[.agg #[.bool s, .slice ao n cap], .int .i64 (h : Int)] w' fun e w'' => ∃ a', e = .returned (.tuple #[.agg #[.bool (ng Zh), .slice a' (ln (am Zh)) (ln (am Zh))], .int .i64 0]) ∧ New w' w'' a' (am Zh) (ln (am Zh))) : Calls Try.prog 14 #[.agg #[.bool s, .slice ao n cap], .int .i64 (k : Int)] w fun e w' => ∃ a', e = .returned (.tuple #[.agg #[.bool (ng Z), .slice a' (ln (am Z)) (ln (am Z))], .int .i64 0]) ∧ New w w' a' (am Z) (ln (am Z)) := by
  have H1 := hide' IH
  have e1 : Hid (sg (ng Zh) (am Zh) * sg (ng Zh) (am Zh) = Zq) := by show _ = _; rw [sg_na]; exact eq
  subst ez
  have k0 : ¬ ((k : Int) < 0) := by omega
  have k1 : ¬ ((4096 : Int) < (k : Int)) := by omega
  have k2 : ((k : Int) == 0) = false := by rw [beq_eq_false_iff_ne]; omega
  have k3 : (k : Int) / 2 = (h : Int) := by omega
  have k4 : (k : Int) % 2 = 0 := by omega
  clear IH eq hh hr h0
  go_enter Try.func14, Try.ntmps14
  go_wp2_with fail
  obtain ⟨W, hW⟩ : ∃ W, ((w.alloc (.cells #[.bool s, .slice ao n cap] 25)).alloc (.cells #[.bool false, .slice none 0 0] 25)) = W := ⟨_, rfl⟩
  have q00 : W.cell? ⟨w.heap.size, 0, none⟩ = some (.bool s) := by subst hW; go_simp
  have q01 : W.cell? ⟨w.heap.size, 1, none⟩ = some (.slice ao n cap) := by subst hW; go_simp
  have r00 : W.cell? ⟨w.heap.size + 1, 0, none⟩ = some (.bool false) := by subst hW; go_simp
  have r01 : W.cell? ⟨w.heap.size + 1, 1, none⟩ = some (.slice none 0 0) := by subst hW; go_simp
  have hB : Below w.heap.size w W := by subst hW; exact (((Below.refl _ _).alloc (by (try simp only [World.size_alloc]); omega) _).alloc (by (try simp only [World.size_alloc]); omega) _)
  have hR0 : Row W (w.heap.size + 1) := by
    have := row_new ((w.alloc (.cells #[.bool s, .slice ao n cap] 25))) #[.bool false, .slice none 0 0] 25
    try simp only [World.size_alloc] at this
    subst hW; exact this
  have hz : W.heap.size = w.heap.size + 1 + 1 := by subst hW; simp only [World.size_alloc]
  rw [hW]
  clear hW
  have hBW : Below W.heap.size W W := Below.refl _ _
  refine (H1.out _ (sb hS hB hBW)).mono ?_
  rintro e w41 ⟨p41, rfl, hp41⟩
  have b41 := hp41.below
  replace hp41 := hp41.back hBW
  replace hBW := hBW.trans (b41.mono hBW.size)
  replace q00 := below_cell b41 q00
  replace q01 := below_cell b41 q01
  replace r00 := below_cell b41 r00
  replace r01 := below_cell b41 r01
  replace hR0 := below_row b41 hR0
  have hsz41 := hBW.size
  have hlt41hR0 := hR0.lt
  have l4100 : ((w41.alloc (.cells #[.bool (ng Zh), .slice p41 (ln (am Zh)) (ln (am Zh))] 25))).cell? ⟨w41.heap.size, 0, none⟩ = some (.bool (ng Zh)) := by go_simp
  have l4101 : ((w41.alloc (.cells #[.bool (ng Zh), .slice p41 (ln (am Zh)) (ln (am Zh))] 25))).cell? ⟨w41.heap.size, 1, none⟩ = some (.slice p41 (ln (am Zh)) (ln (am Zh))) := by go_simp
  have cb41 : Below w41.heap.size w41 ((w41.alloc (.cells #[.bool (ng Zh), .slice p41 (ln (am Zh)) (ln (am Zh))] 25))) := ((Below.refl _ _).alloc (by (try simp only [World.size_alloc]); omega) _)
  replace hBW := hBW.trans (cb41.mono hBW.size)
  replace q00 := below_cell cb41 q00
  replace q01 := below_cell cb41 q01
  replace r00 := below_cell cb41 r00
  replace r01 := below_cell cb41 r01
  replace hR0 := below_row cb41 hR0
  replace hp41 := hp41.later cb41
  have hL410 : Row ((w41.alloc (.cells #[.bool (ng Zh), .slice p41 (ln (am Zh)) (ln (am Zh))] 25))) (w41.heap.size) := by
    have := row_new (w41) #[.bool (ng Zh), .slice p41 (ln (am Zh)) (ln (am Zh))] 25
    try simp only [World.size_alloc] at this
    exact this
  go_wp2_with fail
  generalize (w41.alloc (.cells #[.bool (ng Zh), .slice p41 (ln (am Zh)) (ln (am Zh))] 25)) = w41x at q00 q01 r00 r01 l4100 l4101 hR0 hL410 hp41 hBW cb41 ⊢
  clear cb41
  have hsB := hBW.size
  replace hB := hB.trans (hBW.mono hB.size)
  have hltBhR0 := hR0.lt
  have hltBhL410 := hL410.lt
  clear hBW
  have hBW : Below w41x.heap.size w41x w41x := Below.refl _ _
  have khp41 := hp41.seg
  clear hp41
  have hwl : w41.heap.size < w41x.heap.size := by omega
  refine (vMul_is (ng Zh) p41 (ln (am Zh)) (ln (am Zh)) (am Zh) (ng Zh) p41 (ln (am Zh)) (ln (am Zh)) (am Zh) Zq _ (by omega) khp41 khp41 e1.out).mono ?_
  rintro e w42 ⟨p42, rfl, hp42⟩
  have b42 := hp42.below
  replace hp42 := hp42.back hBW
  replace hBW := hBW.trans (b42.mono hBW.size)
  replace q00 := below_cell b42 q00
  replace q01 := below_cell b42 q01
  replace r00 := below_cell b42 r00
  replace r01 := below_cell b42 r01
  replace l4100 := below_cell b42 l4100
  replace l4101 := below_cell b42 l4101
  replace hR0 := below_row b42 hR0
  replace hL410 := below_row b42 hL410
  replace khp41 := khp41.later b42
  clear khp41
  have hsB := hBW.size
  have hM : Mid w.heap.size w41x.heap.size w42 ((w42.setCell ⟨w41.heap.size, 0, none⟩ (.bool (ng Zq))).setCell ⟨w41.heap.size, 1, none⟩ (.slice p42 (ln (am Zq)) (ln (am Zq)))) := (((Mid.refl _ _ _).set _ _ (by omega) (by omega) _).set _ _ (by omega) (by omega) _)
  have eM := set2_same (w := w42) (c := w41.heap.size) (u := .bool (ng Zq)) (v := .slice p42 (ln (am Zq)) (ln (am Zq))) l4100 l4101
  have q00_ : (((w42.setCell ⟨w41.heap.size, 0, none⟩ (.bool (ng Zq))).setCell ⟨w41.heap.size, 1, none⟩ (.slice p42 (ln (am Zq)) (ln (am Zq))))).cell? ⟨w.heap.size, 0, none⟩ = some (.bool s) := (set2_far (by omega)).trans q00
  have q01_ : (((w42.setCell ⟨w41.heap.size, 0, none⟩ (.bool (ng Zq))).setCell ⟨w41.heap.size, 1, none⟩ (.slice p42 (ln (am Zq)) (ln (am Zq))))).cell? ⟨w.heap.size, 1, none⟩ = some (.slice ao n cap) := (set2_far (by omega)).trans q01
  have r00_ : (((w42.setCell ⟨w41.heap.size, 0, none⟩ (.bool (ng Zq))).setCell ⟨w41.heap.size, 1, none⟩ (.slice p42 (ln (am Zq)) (ln (am Zq))))).cell? ⟨w.heap.size + 1, 0, none⟩ = some (.bool false) := (set2_far (by omega)).trans r00
  have r01_ : (((w42.setCell ⟨w41.heap.size, 0, none⟩ (.bool (ng Zq))).setCell ⟨w41.heap.size, 1, none⟩ (.slice p42 (ln (am Zq)) (ln (am Zq))))).cell? ⟨w.heap.size + 1, 1, none⟩ = some (.slice none 0 0) := (set2_far (by omega)).trans r01
  have l4100_ : (((w42.setCell ⟨w41.heap.size, 0, none⟩ (.bool (ng Zq))).setCell ⟨w41.heap.size, 1, none⟩ (.slice p42 (ln (am Zq)) (ln (am Zq))))).cell? ⟨w41.heap.size, 0, none⟩ = some (.bool (ng Zq)) := eM.1
  have l4101_ : (((w42.setCell ⟨w41.heap.size, 0, none⟩ (.bool (ng Zq))).setCell ⟨w41.heap.size, 1, none⟩ (.slice p42 (ln (am Zq)) (ln (am Zq))))).cell? ⟨w41.heap.size, 1, none⟩ = some (.slice p42 (ln (am Zq)) (ln (am Zq))) := eM.2
  have hR0_ := ((hR0.setCell ⟨w41.heap.size, 0, none⟩ (.bool (ng Zq))).setCell ⟨w41.heap.size, 1, none⟩ (.slice p42 (ln (am Zq)) (ln (am Zq))))
  have fzhR0 := fun o => hR0.frozen o
  have hL410_ := ((hL410.setCell ⟨w41.heap.size, 0, none⟩ (.bool (ng Zq))).setCell ⟨w41.heap.size, 1, none⟩ (.slice p42 (ln (am Zq)) (ln (am Zq))))
  have fzhL410 := fun o => hL410.frozen o
  replace hp42 := (hp42.fre).mid hM
  have hBn := (hB.trans (hBW.mono hB.size)).trans (hM.below (Nat.le_trans hB.size hBW.size))
  have hsM := hM.size
  clear hM eM
  go_wp2_with fail
  clear q00 q01 r00 r01 l4100 l4101 hR0 hL410 fzhR0 fzhL410 hB hBW
  generalize ((w42.setCell ⟨w41.heap.size, 0, none⟩ (.bool (ng Zq))).setCell ⟨w41.heap.size, 1, none⟩ (.slice p42 (ln (am Zq)) (ln (am Zq)))) = w42y at q00_ q01_ r00_ r01_ l4100_ l4101_ hR0_ hL410_ hp42 hBn hsM ⊢
  have q00 := q00_
  clear q00_
  have q01 := q01_
  clear q01_
  have r00 := r00_
  clear r00_
  have r01 := r01_
  clear r01_
  have l4100 := l4100_
  clear l4100_
  have l4101 := l4101_
  clear l4101_
  have hR0 := hR0_
  clear hR0_
  have hL410 := hL410_
  clear hL410_
  have hB := hBn
  clear hBn
  have hBW : Below w42y.heap.size w42y w42y := Below.refl _ _
  refine bodyPost_ret (v := .tuple #[.agg #[.bool (ng Zq), .slice p42 (ln (am Zq)) (ln (am Zq))], .int .i64 0]) (by rw [results_ctS rfl]; go_simp) rfl ?_
  exact ⟨p42, rfl, Fre.finP hp42 hB (by omega) (((Mid.refl _ _ _).set _ _ (by omega) (by omega) _).set _ _ (by omega) (by omega) _)⟩

set_option maxHeartbeats 4000000 in
set_option maxRecDepth 100000 in
theorem vPow_odd (s : Bool) (ao : Option Addr) (n cap X : Nat) (w : World) (hm : n ≤ 35184372088832) (hS : Seg w ao X n) (k h : Nat) (h0 : 0 < k) (hk : k ≤ 4096) (hh : k / 2 = h) (hr : k % 2 = 1) (hmn : n * k ≤ 35184372088831) (Zh Zq Z : Int) (lh : ln (am Zh) ≤ 35184372088832) (lq : ln (am Zq) ≤ 35184372088832) (eq : Zh * Zh = Zq) (ez : Zq * sg s X = Z) (IH : ∀ w', Seg w' ao X n → Calls Try.prog 14 #[.agg #[.bool s, .slice ao n cap], .int .i64 (h : Int)] w' fun e w'' => ∃ a', e = .returned (.tuple #[.agg #[.bool (ng Zh), .slice a' (ln (am Zh)) (ln (am Zh))], .int .i64 0]) ∧ New w' w'' a' (am Zh) (ln (am Zh))) : Calls Try.prog 14 #[.agg #[.bool s, .slice ao n cap], .int .i64 (k : Int)] w fun e w' => ∃ a', e = .returned (.tuple #[.agg #[.bool (ng Z), .slice a' (ln (am Z)) (ln (am Z))], .int .i64 0]) ∧ New w w' a' (am Z) (ln (am Z)) := by
  have H1 := hide' IH
  have e1 : Hid (sg (ng Zh) (am Zh) * sg (ng Zh) (am Zh) = Zq) := by show _ = _; rw [sg_na]; exact eq
  have e2 : Hid (sg (ng Zq) (am Zq) * sg s X = Z) := by show _ = _; rw [sg_na]; exact ez
  have k0 : ¬ ((k : Int) < 0) := by omega
  have k1 : ¬ ((4096 : Int) < (k : Int)) := by omega
  have k2 : ((k : Int) == 0) = false := by rw [beq_eq_false_iff_ne]; omega
  have k3 : (k : Int) / 2 = (h : Int) := by omega
  have k4 : (k : Int) % 2 = 1 := by omega
  clear IH eq hh hr h0 ez
  go_enter Try.func14, Try.ntmps14
  go_wp2_with fail
  obtain ⟨W, hW⟩ : ∃ W, ((w.alloc (.cells #[.bool s, .slice ao n cap] 25)).alloc (.cells #[.bool false, .slice none 0 0] 25)) = W := ⟨_, rfl⟩
  have q00 : W.cell? ⟨w.heap.size, 0, none⟩ = some (.bool s) := by subst hW; go_simp
  have q01 : W.cell? ⟨w.heap.size, 1, none⟩ = some (.slice ao n cap) := by subst hW; go_simp
  have r00 : W.cell? ⟨w.heap.size + 1, 0, none⟩ = some (.bool false) := by subst hW; go_simp
  have r01 : W.cell? ⟨w.heap.size + 1, 1, none⟩ = some (.slice none 0 0) := by subst hW; go_simp
  have hB : Below w.heap.size w W := by subst hW; exact (((Below.refl _ _).alloc (by (try simp only [World.size_alloc]); omega) _).alloc (by (try simp only [World.size_alloc]); omega) _)
  have hR0 : Row W (w.heap.size + 1) := by
    have := row_new ((w.alloc (.cells #[.bool s, .slice ao n cap] 25))) #[.bool false, .slice none 0 0] 25
    try simp only [World.size_alloc] at this
    subst hW; exact this
  have hz : W.heap.size = w.heap.size + 1 + 1 := by subst hW; simp only [World.size_alloc]
  rw [hW]
  clear hW
  have hBW : Below W.heap.size W W := Below.refl _ _
  refine (H1.out _ (sb hS hB hBW)).mono ?_
  rintro e w41 ⟨p41, rfl, hp41⟩
  have b41 := hp41.below
  replace hp41 := hp41.back hBW
  replace hBW := hBW.trans (b41.mono hBW.size)
  replace q00 := below_cell b41 q00
  replace q01 := below_cell b41 q01
  replace r00 := below_cell b41 r00
  replace r01 := below_cell b41 r01
  replace hR0 := below_row b41 hR0
  have hsz41 := hBW.size
  have hlt41hR0 := hR0.lt
  have l4100 : ((w41.alloc (.cells #[.bool (ng Zh), .slice p41 (ln (am Zh)) (ln (am Zh))] 25))).cell? ⟨w41.heap.size, 0, none⟩ = some (.bool (ng Zh)) := by go_simp
  have l4101 : ((w41.alloc (.cells #[.bool (ng Zh), .slice p41 (ln (am Zh)) (ln (am Zh))] 25))).cell? ⟨w41.heap.size, 1, none⟩ = some (.slice p41 (ln (am Zh)) (ln (am Zh))) := by go_simp
  have cb41 : Below w41.heap.size w41 ((w41.alloc (.cells #[.bool (ng Zh), .slice p41 (ln (am Zh)) (ln (am Zh))] 25))) := ((Below.refl _ _).alloc (by (try simp only [World.size_alloc]); omega) _)
  replace hBW := hBW.trans (cb41.mono hBW.size)
  replace q00 := below_cell cb41 q00
  replace q01 := below_cell cb41 q01
  replace r00 := below_cell cb41 r00
  replace r01 := below_cell cb41 r01
  replace hR0 := below_row cb41 hR0
  replace hp41 := hp41.later cb41
  have hL410 : Row ((w41.alloc (.cells #[.bool (ng Zh), .slice p41 (ln (am Zh)) (ln (am Zh))] 25))) (w41.heap.size) := by
    have := row_new (w41) #[.bool (ng Zh), .slice p41 (ln (am Zh)) (ln (am Zh))] 25
    try simp only [World.size_alloc] at this
    exact this
  go_wp2_with fail
  generalize (w41.alloc (.cells #[.bool (ng Zh), .slice p41 (ln (am Zh)) (ln (am Zh))] 25)) = w41x at q00 q01 r00 r01 l4100 l4101 hR0 hL410 hp41 hBW cb41 ⊢
  clear cb41
  have hsB := hBW.size
  replace hB := hB.trans (hBW.mono hB.size)
  have hltBhR0 := hR0.lt
  have hltBhL410 := hL410.lt
  clear hBW
  have hBW : Below w41x.heap.size w41x w41x := Below.refl _ _
  have khp41 := hp41.seg
  clear hp41
  have hwl : w41.heap.size < w41x.heap.size := by omega
  refine (vMul_is (ng Zh) p41 (ln (am Zh)) (ln (am Zh)) (am Zh) (ng Zh) p41 (ln (am Zh)) (ln (am Zh)) (am Zh) Zq _ (by omega) khp41 khp41 e1.out).mono ?_
  rintro e w42 ⟨p42, rfl, hp42⟩
  have b42 := hp42.below
  replace hp42 := hp42.back hBW
  replace hBW := hBW.trans (b42.mono hBW.size)
  replace q00 := below_cell b42 q00
  replace q01 := below_cell b42 q01
  replace r00 := below_cell b42 r00
  replace r01 := below_cell b42 r01
  replace l4100 := below_cell b42 l4100
  replace l4101 := below_cell b42 l4101
  replace hR0 := below_row b42 hR0
  replace hL410 := below_row b42 hL410
  replace khp41 := khp41.later b42
  clear khp41
  have hsB := hBW.size
  have hM : Mid w.heap.size w41x.heap.size w42 ((w42.setCell ⟨w41.heap.size, 0, none⟩ (.bool (ng Zq))).setCell ⟨w41.heap.size, 1, none⟩ (.slice p42 (ln (am Zq)) (ln (am Zq)))) := (((Mid.refl _ _ _).set _ _ (by omega) (by omega) _).set _ _ (by omega) (by omega) _)
  have eM := set2_same (w := w42) (c := w41.heap.size) (u := .bool (ng Zq)) (v := .slice p42 (ln (am Zq)) (ln (am Zq))) l4100 l4101
  have q00_ : (((w42.setCell ⟨w41.heap.size, 0, none⟩ (.bool (ng Zq))).setCell ⟨w41.heap.size, 1, none⟩ (.slice p42 (ln (am Zq)) (ln (am Zq))))).cell? ⟨w.heap.size, 0, none⟩ = some (.bool s) := (set2_far (by omega)).trans q00
  have q01_ : (((w42.setCell ⟨w41.heap.size, 0, none⟩ (.bool (ng Zq))).setCell ⟨w41.heap.size, 1, none⟩ (.slice p42 (ln (am Zq)) (ln (am Zq))))).cell? ⟨w.heap.size, 1, none⟩ = some (.slice ao n cap) := (set2_far (by omega)).trans q01
  have r00_ : (((w42.setCell ⟨w41.heap.size, 0, none⟩ (.bool (ng Zq))).setCell ⟨w41.heap.size, 1, none⟩ (.slice p42 (ln (am Zq)) (ln (am Zq))))).cell? ⟨w.heap.size + 1, 0, none⟩ = some (.bool false) := (set2_far (by omega)).trans r00
  have r01_ : (((w42.setCell ⟨w41.heap.size, 0, none⟩ (.bool (ng Zq))).setCell ⟨w41.heap.size, 1, none⟩ (.slice p42 (ln (am Zq)) (ln (am Zq))))).cell? ⟨w.heap.size + 1, 1, none⟩ = some (.slice none 0 0) := (set2_far (by omega)).trans r01
  have l4100_ : (((w42.setCell ⟨w41.heap.size, 0, none⟩ (.bool (ng Zq))).setCell ⟨w41.heap.size, 1, none⟩ (.slice p42 (ln (am Zq)) (ln (am Zq))))).cell? ⟨w41.heap.size, 0, none⟩ = some (.bool (ng Zq)) := eM.1
  have l4101_ : (((w42.setCell ⟨w41.heap.size, 0, none⟩ (.bool (ng Zq))).setCell ⟨w41.heap.size, 1, none⟩ (.slice p42 (ln (am Zq)) (ln (am Zq))))).cell? ⟨w41.heap.size, 1, none⟩ = some (.slice p42 (ln (am Zq)) (ln (am Zq))) := eM.2
  have hR0_ := ((hR0.setCell ⟨w41.heap.size, 0, none⟩ (.bool (ng Zq))).setCell ⟨w41.heap.size, 1, none⟩ (.slice p42 (ln (am Zq)) (ln (am Zq))))
  have fzhR0 := fun o => hR0.frozen o
  have hL410_ := ((hL410.setCell ⟨w41.heap.size, 0, none⟩ (.bool (ng Zq))).setCell ⟨w41.heap.size, 1, none⟩ (.slice p42 (ln (am Zq)) (ln (am Zq))))
  have fzhL410 := fun o => hL410.frozen o
  replace hp42 := (hp42.fre).mid hM
  have hBn := (hB.trans (hBW.mono hB.size)).trans (hM.below (Nat.le_trans hB.size hBW.size))
  have hsM := hM.size
  clear hM eM
  go_wp2_with fail
  clear q00 q01 r00 r01 l4100 l4101 hR0 hL410 fzhR0 fzhL410 hB hBW
  generalize ((w42.setCell ⟨w41.heap.size, 0, none⟩ (.bool (ng Zq))).setCell ⟨w41.heap.size, 1, none⟩ (.slice p42 (ln (am Zq)) (ln (am Zq)))) = w42y at q00_ q01_ r00_ r01_ l4100_ l4101_ hR0_ hL410_ hp42 hBn hsM ⊢
  have q00 := q00_
  clear q00_
  have q01 := q01_
  clear q01_
  have r00 := r00_
  clear r00_
  have r01 := r01_
  clear r01_
  have l4100 := l4100_
  clear l4100_
  have l4101 := l4101_
  clear l4101_
  have hR0 := hR0_
  clear hR0_
  have hL410 := hL410_
  clear hL410_
  have hB := hBn
  clear hBn
  have hBW : Below w42y.heap.size w42y w42y := Below.refl _ _
  have hwm : w41.heap.size < w42y.heap.size := by omega
  refine (vMul_is (ng Zq) p42 (ln (am Zq)) (ln (am Zq)) (am Zq) s ao n cap X Z _ (by omega) hp42.seg (sb hS hB hBW) e2.out).mono ?_
  rintro e w43 ⟨p43, rfl, hp43⟩
  have b43 := hp43.below
  replace hp43 := hp43.back hBW
  replace hBW := hBW.trans (b43.mono hBW.size)
  replace q00 := below_cell b43 q00
  replace q01 := below_cell b43 q01
  replace r00 := below_cell b43 r00
  replace r01 := below_cell b43 r01
  replace l4100 := below_cell b43 l4100
  replace l4101 := below_cell b43 l4101
  replace hR0 := below_row b43 hR0
  replace hL410 := below_row b43 hL410
  replace hp42 := hp42.later b43
  clear hp42
  have hsB := hBW.size
  have hM : Mid w.heap.size w42y.heap.size w43 ((w43.setCell ⟨w41.heap.size, 0, none⟩ (.bool (ng Z))).setCell ⟨w41.heap.size, 1, none⟩ (.slice p43 (ln (am Z)) (ln (am Z)))) := (((Mid.refl _ _ _).set _ _ (by omega) (by omega) _).set _ _ (by omega) (by omega) _)
  have eM := set2_same (w := w43) (c := w41.heap.size) (u := .bool (ng Z)) (v := .slice p43 (ln (am Z)) (ln (am Z))) l4100 l4101
  have q00_ : (((w43.setCell ⟨w41.heap.size, 0, none⟩ (.bool (ng Z))).setCell ⟨w41.heap.size, 1, none⟩ (.slice p43 (ln (am Z)) (ln (am Z))))).cell? ⟨w.heap.size, 0, none⟩ = some (.bool s) := (set2_far (by omega)).trans q00
  have q01_ : (((w43.setCell ⟨w41.heap.size, 0, none⟩ (.bool (ng Z))).setCell ⟨w41.heap.size, 1, none⟩ (.slice p43 (ln (am Z)) (ln (am Z))))).cell? ⟨w.heap.size, 1, none⟩ = some (.slice ao n cap) := (set2_far (by omega)).trans q01
  have r00_ : (((w43.setCell ⟨w41.heap.size, 0, none⟩ (.bool (ng Z))).setCell ⟨w41.heap.size, 1, none⟩ (.slice p43 (ln (am Z)) (ln (am Z))))).cell? ⟨w.heap.size + 1, 0, none⟩ = some (.bool false) := (set2_far (by omega)).trans r00
  have r01_ : (((w43.setCell ⟨w41.heap.size, 0, none⟩ (.bool (ng Z))).setCell ⟨w41.heap.size, 1, none⟩ (.slice p43 (ln (am Z)) (ln (am Z))))).cell? ⟨w.heap.size + 1, 1, none⟩ = some (.slice none 0 0) := (set2_far (by omega)).trans r01
  have l4100_ : (((w43.setCell ⟨w41.heap.size, 0, none⟩ (.bool (ng Z))).setCell ⟨w41.heap.size, 1, none⟩ (.slice p43 (ln (am Z)) (ln (am Z))))).cell? ⟨w41.heap.size, 0, none⟩ = some (.bool (ng Z)) := eM.1
  have l4101_ : (((w43.setCell ⟨w41.heap.size, 0, none⟩ (.bool (ng Z))).setCell ⟨w41.heap.size, 1, none⟩ (.slice p43 (ln (am Z)) (ln (am Z))))).cell? ⟨w41.heap.size, 1, none⟩ = some (.slice p43 (ln (am Z)) (ln (am Z))) := eM.2
  have hR0_ := ((hR0.setCell ⟨w41.heap.size, 0, none⟩ (.bool (ng Z))).setCell ⟨w41.heap.size, 1, none⟩ (.slice p43 (ln (am Z)) (ln (am Z))))
  have fzhR0 := fun o => hR0.frozen o
  have hL410_ := ((hL410.setCell ⟨w41.heap.size, 0, none⟩ (.bool (ng Z))).setCell ⟨w41.heap.size, 1, none⟩ (.slice p43 (ln (am Z)) (ln (am Z))))
  have fzhL410 := fun o => hL410.frozen o
  replace hp43 := (hp43.fre).mid hM
  have hBn := (hB.trans (hBW.mono hB.size)).trans (hM.below (Nat.le_trans hB.size hBW.size))
  have hsM := hM.size
  clear hM eM
  go_wp2_with fail
  clear q00 q01 r00 r01 l4100 l4101 hR0 hL410 fzhR0 fzhL410 hB hBW
  generalize ((w43.setCell ⟨w41.heap.size, 0, none⟩ (.bool (ng Z))).setCell ⟨w41.heap.size, 1, none⟩ (.slice p43 (ln (am Z)) (ln (am Z)))) = w43y at q00_ q01_ r00_ r01_ l4100_ l4101_ hR0_ hL410_ hp43 hBn hsM ⊢
  have q00 := q00_
  clear q00_
  have q01 := q01_
  clear q01_
  have r00 := r00_
  clear r00_
  have r01 := r01_
  clear r01_
  have l4100 := l4100_
  clear l4100_
  have l4101 := l4101_
  clear l4101_
  have hR0 := hR0_
  clear hR0_
  have hL410 := hL410_
  clear hL410_
  have hB := hBn
  clear hBn
  have hBW : Below w43y.heap.size w43y w43y := Below.refl _ _
  refine bodyPost_ret (v := .tuple #[.agg #[.bool (ng Z), .slice p43 (ln (am Z)) (ln (am Z))], .int .i64 0]) (by rw [results_ctS rfl]; go_simp) rfl ?_
  exact ⟨p43, rfl, Fre.finP hp43 hB (by omega) (((Mid.refl _ _ _).set _ _ (by omega) (by omega) _).set _ _ (by omega) (by omega) _)⟩

theorem vPow_all (s : Bool) (ao : Option Addr) (n cap X : Nat) (hm : n ≤ 35184372088832) (hX : X < BB ^ n) (N : Nat) : ∀ k, k < N → k ≤ 4096 → n * k ≤ 35184372088831 → ∀ (Z : Int), sg (psn s k) (X ^ k) = Z → ∀ w, Seg w ao X n →
    Calls Try.prog 14 #[.agg #[.bool s, .slice ao n cap], .int .i64 (k : Int)] w fun e w' => ∃ a', e = .returned (.tuple #[.agg #[.bool (ng Z), .slice a' (ln (am Z)) (ln (am Z))], .int .i64 0]) ∧ New w w' a' (am Z) (ln (am Z)) := by
  induction N with
  | zero => exact fun k h => absurd h (by omega)
  | succ N ih =>
    intro k hkN hk hmn Z hZ w hS
    by_cases h0 : k = 0
    · subst h0
      have e : Z = 1 := by rw [← hZ, Nat.pow_zero]; rfl
      subst e
      exact vPow_zero s ao n cap X w hm hS
    · obtain ⟨h, hh⟩ : ∃ h, k / 2 = h := ⟨_, rfl⟩
      obtain ⟨Zh, hZh⟩ : ∃ Zh, sg (psn s h) (X ^ h) = Zh := ⟨_, rfl⟩
      have hnh : n * h ≤ n * k := Nat.mul_le_mul_left _ (by omega)
      have hnh2 : n * (h + h) ≤ n * k := Nat.mul_le_mul_left _ (by omega)
      have IH := fun w' g => ih h (by omega) (by omega) (by omega) Zh hZh w' g
      have e1 : Zh * Zh = sg false (X ^ (h + h)) := by rw [← hZh]; exact psn_half hh
      have lh : ln (am Zh) ≤ 35184372088832 := by rw [← hZh, am_sg]; have := ln_pow hX h; omega
      have lq : ln (am (sg false (X ^ (h + h)))) ≤ 35184372088832 := by rw [am_sg]; have := ln_pow hX (h + h); omega
      by_cases hr : k % 2 = 0
      · exact vPow_even s ao n cap X w hm hS k h (by omega) hk hh hr hmn Zh _ Z lh lq e1 (by rw [psn_even hh hr]; exact hZ) IH
      · exact vPow_odd s ao n cap X w hm hS k h (by omega) hk hh (by omega) hmn Zh _ Z lh lq e1 (by rw [psn_odd hh (by omega)]; exact hZ) IH
end Go.Proofs.Ytjdilgkjgednjaa
