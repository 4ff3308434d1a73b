/-
  Layer 2's Shift.
-/
import Derived.Test.YtjdilgkjgednjaaWS1
namespace Go.Proofs.Ytjdilgkjgednjaa
open Go.RowKit
set_option linter.unusedVariables false

theorem Seg.later {w1 w' : World} {a : Option Addr} {Z n : Nat} (h : Seg w1 a Z n) (hb : Below w1.heap.size w1 w') : Seg w' a Z n := h.below hb (Nat.le_refl _)
theorem bsetW {W w' : World} {c o : Nat} {u : Value} (h : Below W.heap.size W w') (hc : W.heap.size ≤ c) : Below W.heap.size W (w'.setCell ⟨c, o, none⟩ u) := h.setCell hc _
theorem bsetS {w w' : World} {c o : Nat} {u : Value} (h : Below w.heap.size w w') (hc : w.heap.size ≤ c) : Below w.heap.size w (w'.setCell ⟨c, o, none⟩ u) := h.setCell hc _
theorem results_ctS {fn : Func} {p u : Tmp} {ty : TypeId} (h : fn.results = #[.cell p ty, .tmp u]) (tmps : Array Value) (P : Program) (w : World) :
    (results fn tmps).run P w = ((asAddr (tmps.getD p undef)).run P w).andThen fun a w1 => ((loadVar ty a).run P w1).andThen fun v w2 => .ok (.tuple #[v, tmps.getD u undef]) w2 := by
  simp only [results, h]
  simp [Sem.run_bind]
theorem res_eqS {s : Bool} {a : Option Addr} {X : Nat} {Z : Int} (hz : sg s X = Z) : Ending.returned (.tuple #[.agg #[.bool (s && decide (0 < ln X)), .slice a (ln X) (ln X)], .int .i64 0]) = .returned (.tuple #[.agg #[.bool (ng Z), .slice a (ln (am Z)) (ln (am Z))], .int .i64 0]) := by
  subst hz; rw [am_sg, ng_sg]
theorem pow_shl {k m : Nat} (h : k < 32 * m) : 2 ^ k < BB ^ m := by
  rw [BB_two']
  exact Nat.pow_lt_pow_right (by omega) h
theorem ln_shl {X n k m : Nat} (hX : X < BB ^ n) (h : k < 32 * m) : ln (X * 2 ^ k) ≤ n + m := ln_prod hX (pow_shl h)
theorem ln_shl_le {X n k : Nat} (hX : X < BB ^ n) (hk : k ≤ 1048576) : ln (X * 2 ^ k) ≤ n + 32769 := ln_shl hX (by omega)
/-- a number shifted down: its amount's, and one more, if it is below 0 and something is lost -/
def dnA (s : Bool) (X k : Nat) : Nat := X / 2 ^ k + if s = true ∧ X % 2 ^ k ≠ 0 then 1 else 0
theorem dnA_le (s : Bool) (X k : Nat) : dnA s X k ≤ X := by
  unfold dnA
  have h := Nat.div_add_mod X (2 ^ k)
  have hp := Nat.two_pow_pos k
  have h1 : X / 2 ^ k ≤ 2 ^ k * (X / 2 ^ k) := Nat.le_mul_of_pos_left _ hp
  split
  · rename_i h2; omega
  · omega
set_option maxHeartbeats 1000000 in
theorem Shift_dnL (ao : Option Addr) (n cap X s : Nat) (w : World) (hc : n ≤ cap) (hm : n ≤ 70368744177660) (h0 : 0 < s) (hs : s ≤ 1048576) (hS : Seg w ao X n) :
    Calls Try.prog 23 #[.slice ao n cap, .int .i64 (-(s : Int))] w fun e w' => ∃ ao', e = .returned (.tuple #[.slice ao' (ln (X / 2 ^ s)) (ln (X / 2 ^ s)), .int .i64 0]) ∧ New w w' ao' (X / 2 ^ s) (ln (X / 2 ^ s)) := by
  have hl := ln_le_of_lt hS.1
  go_enter Try.func23, Try.ntmps23
  go_wp2_with fail
  refine (trim_any _ _ _ X _ hc (by omega) hS).mono ?_
  rintro e w1 ⟨a1, rfl, rfl, ht⟩
  have hT := hS.trm ht
  go_wp2_with fail
  refine (lowered_any _ _ X s _ (by omega) (by omega) hT).mono ?_
  rintro e w2 ⟨a2, rfl, hn2⟩
  go_wp2
  go_ret2
  exact ⟨_, rfl, hn2⟩
set_option maxHeartbeats 4000000 in
set_option maxRecDepth 100000 in
theorem wShift_no (s : Bool) (ao : Option Addr) (n cap X : Nat) (w : World) (hc : n ≤ cap) (hm : n ≤ 35184372088832) (hS : Seg w ao X n) (z : Int) (hz : z < -1048576 ∨ 1048576 < z) : Calls Try.prog 7 #[.agg #[.bool s, .slice ao n cap], .int .i64 z] w fun e w' => e = .returned (.tuple #[.agg #[.bool false, .slice none 0 0], .int .i64 12]) ∧ Below w.heap.size w w' := by
  have H1 := hide' (fun w' => Shift_no ao n cap z w' hz)
  clear hz
  go_enter Try.func7, Try.ntmps7
  go_wp2_with fail
  obtain ⟨W, hW⟩ : ∃ W, ((w.alloc (.cells #[.bool s, .slice ao n cap] 25)).alloc (.cells #[.bool false, .slice none 0 0] 25)) = W := ⟨_, rfl⟩
  have q00 : W.cell? ⟨w.heap.size, 0, none⟩ = some (.bool s) := by subst hW; go_simp
  have q01 : W.cell? ⟨w.heap.size, 1, none⟩ = some (.slice ao n cap) := by subst hW; go_simp
  have r00 : W.cell? ⟨w.heap.size + 1, 0, none⟩ = some (.bool false) := by subst hW; go_simp
  have r01 : W.cell? ⟨w.heap.size + 1, 1, none⟩ = some (.slice none 0 0) := by subst hW; go_simp
  have hB : Below w.heap.size w W := by subst hW; exact (((Below.refl _ _).alloc (by (try simp only [World.size_alloc]); omega) _).alloc (by (try simp only [World.size_alloc]); omega) _)
  have hR0 : Row W (w.heap.size + 1) := by
    have := row_new ((w.alloc (.cells #[.bool s, .slice ao n cap] 25))) #[.bool false, .slice none 0 0] 25
    try simp only [World.size_alloc] at this
    subst hW; exact this
  have hz : W.heap.size = w.heap.size + 1 + 1 := by subst hW; simp only [World.size_alloc]
  rw [hW]
  clear hW
  have hBW : Below W.heap.size W W := Below.refl _ _
  refine (H1.out _).mono ?_
  rintro e w41 ⟨rfl, rfl⟩
  have fz0 := fun o => hR0.frozen o
  go_wp2
  all_goals refine bodyPost_ret (v := .tuple #[.agg #[.bool false, .slice none 0 0], .int .i64 12]) (by rw [results_ctS rfl]; go_simp) rfl ?_
  all_goals exact ⟨rfl, by first | exact ((bsetS (bsetS (hB.trans (hBW.mono hB.size)) (by omega)) (by omega))) | exact hB.trans (hBW.mono hB.size)⟩

set_option maxHeartbeats 4000000 in
set_option maxRecDepth 100000 in
theorem wShift_up_f (ao : Option Addr) (n cap X : Nat) (w : World) (hc : n ≤ cap) (hm : n ≤ 35184372088832) (hS : Seg w ao X n) (k : Nat) (hk : k ≤ 1048576) (Z : Int) (hZ : sg false (X * 2 ^ k) = Z) : Calls Try.prog 7 #[.agg #[.bool false, .slice ao n cap], .int .i64 (k : Int)] w fun e w' => ∃ a', e = .returned (.tuple #[.agg #[.bool (ng Z), .slice a' (ln (am Z)) (ln (am Z))], .int .i64 0]) ∧ New w w' a' (am Z) (ln (am Z)) := by
  have hV := ln_shl_le hS.1 hk
  have H1' := fun w' h => Shift_up ao n cap X k w' hc hm hk h
  obtain ⟨V, hV2⟩ : ∃ V, X * 2 ^ k = V := ⟨_, rfl⟩
  rw [hV2] at H1' hZ hV
  have H1 := hide' H1'
  have HZ := hide' hZ
  have hk0 : ¬ ((k : Int) < 0) := by omega
  have hk1 : decide ((k : Int) < 0) = false := by rw [decide_eq_false_iff_not]; omega
  clear H1' hZ hV2
  go_enter Try.func7, Try.ntmps7
  go_wp2_with fail
  obtain ⟨W, hW⟩ : ∃ W, ((w.alloc (.cells #[.bool false, .slice ao n cap] 25)).alloc (.cells #[.bool false, .slice none 0 0] 25)) = W := ⟨_, rfl⟩
  have q00 : W.cell? ⟨w.heap.size, 0, none⟩ = some (.bool false) := by subst hW; go_simp
  have q01 : W.cell? ⟨w.heap.size, 1, none⟩ = some (.slice ao n cap) := by subst hW; go_simp
  have r00 : W.cell? ⟨w.heap.size + 1, 0, none⟩ = some (.bool false) := by subst hW; go_simp
  have r01 : W.cell? ⟨w.heap.size + 1, 1, none⟩ = some (.slice none 0 0) := by subst hW; go_simp
  have hB : Below w.heap.size w W := by subst hW; exact (((Below.refl _ _).alloc (by (try simp only [World.size_alloc]); omega) _).alloc (by (try simp only [World.size_alloc]); omega) _)
  have hR0 : Row W (w.heap.size + 1) := by
    have := row_new ((w.alloc (.cells #[.bool false, .slice ao n cap] 25))) #[.bool false, .slice none 0 0] 25
    try simp only [World.size_alloc] at this
    subst hW; exact this
  have hz : W.heap.size = w.heap.size + 1 + 1 := by subst hW; simp only [World.size_alloc]
  rw [hW]
  clear hW
  have hBW : Below W.heap.size W W := Below.refl _ _
  refine (H1.out _ (sb hS hB hBW)).mono ?_
  rintro e w41 ⟨p41, rfl, hp41⟩
  have b41 := hp41.below
  replace hp41 := hp41.back hBW
  replace hBW := hBW.trans (b41.mono hBW.size)
  replace q00 := below_cell b41 q00
  replace q01 := below_cell b41 q01
  replace r00 := below_cell b41 r00
  replace r01 := below_cell b41 r01
  replace hR0 := below_row b41 hR0
  go_wp2_with fail
  refine (side_any false _ _).mono ?_
  rintro e w42 ⟨rfl, b42⟩
  replace hBW := hBW.trans (b42.mono hBW.size)
  replace q00 := below_cell b42 q00
  replace q01 := below_cell b42 q01
  replace r00 := below_cell b42 r00
  replace r01 := below_cell b42 r01
  replace hR0 := below_row b42 hR0
  replace hp41 := hp41.later b42
  go_wp2_with fail
  refine (signed1 p41 (ln V) (ln V) false _ (by omega)).mono ?_
  rintro e w43 ⟨rfl, b43⟩
  replace hBW := hBW.trans (b43.mono hBW.size)
  replace q00 := below_cell b43 q00
  replace q01 := below_cell b43 q01
  replace r00 := below_cell b43 r00
  replace r01 := below_cell b43 r01
  replace hR0 := below_row b43 hR0
  replace hp41 := hp41.later b43
  have fz0 := fun o => hR0.frozen o
  go_wp2
  all_goals refine bodyPost_ret (v := .tuple #[.agg #[.bool (false && decide (0 < ln V)), .slice p41 (ln V) (ln V)], .int .i64 0]) (by rw [results_ctS rfl]; go_simp) rfl ?_
  all_goals exact ⟨p41, res_eqS HZ.out, NewI (hp41.mid hB ((((Mid.refl _ _ _).set _ _ (by omega) (by omega) _).set _ _ (by omega) (by omega) _))) HZ.out⟩

set_option maxHeartbeats 4000000 in
set_option maxRecDepth 100000 in
theorem wShift_up_t (ao : Option Addr) (n cap X : Nat) (w : World) (hc : n ≤ cap) (hm : n ≤ 35184372088832) (hS : Seg w ao X n) (k : Nat) (hk : k ≤ 1048576) (Z : Int) (hZ : sg true (X * 2 ^ k) = Z) : Calls Try.prog 7 #[.agg #[.bool true, .slice ao n cap], .int .i64 (k : Int)] w fun e w' => ∃ a', e = .returned (.tuple #[.agg #[.bool (ng Z), .slice a' (ln (am Z)) (ln (am Z))], .int .i64 0]) ∧ New w w' a' (am Z) (ln (am Z)) := by
  have hV := ln_shl_le hS.1 hk
  have H1' := fun w' h => Shift_up ao n cap X k w' hc hm hk h
  obtain ⟨V, hV2⟩ : ∃ V, X * 2 ^ k = V := ⟨_, rfl⟩
  rw [hV2] at H1' hZ hV
  have H1 := hide' H1'
  have HZ := hide' hZ
  have hk0 : ¬ ((k : Int) < 0) := by omega
  have hk1 : decide ((k : Int) < 0) = false := by rw [decide_eq_false_iff_not]; omega
  clear H1' hZ hV2
  go_enter Try.func7, Try.ntmps7
  go_wp2_with fail
  obtain ⟨W, hW⟩ : ∃ W, ((w.alloc (.cells #[.bool true, .slice ao n cap] 25)).alloc (.cells #[.bool false, .slice none 0 0] 25)) = W := ⟨_, rfl⟩
  have q00 : W.cell? ⟨w.heap.size, 0, none⟩ = some (.bool true) := by subst hW; go_simp
  have q01 : W.cell? ⟨w.heap.size, 1, none⟩ = some (.slice ao n cap) := by subst hW; go_simp
  have r00 : W.cell? ⟨w.heap.size + 1, 0, none⟩ = some (.bool false) := by subst hW; go_simp
  have r01 : W.cell? ⟨w.heap.size + 1, 1, none⟩ = some (.slice none 0 0) := by subst hW; go_simp
  have hB : Below w.heap.size w W := by subst hW; exact (((Below.refl _ _).alloc (by (try simp only [World.size_alloc]); omega) _).alloc (by (try simp only [World.size_alloc]); omega) _)
  have hR0 : Row W (w.heap.size + 1) := by
    have := row_new ((w.alloc (.cells #[.bool true, .slice ao n cap] 25))) #[.bool false, .slice none 0 0] 25
    try simp only [World.size_alloc] at this
    subst hW; exact this
  have hz : W.heap.size = w.heap.size + 1 + 1 := by subst hW; simp only [World.size_alloc]
  rw [hW]
  clear hW
  have hBW : Below W.heap.size W W := Below.refl _ _
  refine (H1.out _ (sb hS hB hBW)).mono ?_
  rintro e w41 ⟨p41, rfl, hp41⟩
  have b41 := hp41.below
  replace hp41 := hp41.back hBW
  replace hBW := hBW.trans (b41.mono hBW.size)
  replace q00 := below_cell b41 q00
  replace q01 := below_cell b41 q01
  replace r00 := below_cell b41 r00
  replace r01 := below_cell b41 r01
  replace hR0 := below_row b41 hR0
  go_wp2_with fail
  refine (side_any true _ _).mono ?_
  rintro e w42 ⟨rfl, b42⟩
  replace hBW := hBW.trans (b42.mono hBW.size)
  replace q00 := below_cell b42 q00
  replace q01 := below_cell b42 q01
  replace r00 := below_cell b42 r00
  replace r01 := below_cell b42 r01
  replace hR0 := below_row b42 hR0
  replace hp41 := hp41.later b42
  go_wp2_with fail
  refine (signed1 p41 (ln V) (ln V) true _ (by omega)).mono ?_
  rintro e w43 ⟨rfl, b43⟩
  replace hBW := hBW.trans (b43.mono hBW.size)
  replace q00 := below_cell b43 q00
  replace q01 := below_cell b43 q01
  replace r00 := below_cell b43 r00
  replace r01 := below_cell b43 r01
  replace hR0 := below_row b43 hR0
  replace hp41 := hp41.later b43
  have fz0 := fun o => hR0.frozen o
  go_wp2
  all_goals refine bodyPost_ret (v := .tuple #[.agg #[.bool (true && decide (0 < ln V)), .slice p41 (ln V) (ln V)], .int .i64 0]) (by rw [results_ctS rfl]; go_simp) rfl ?_
  all_goals exact ⟨p41, res_eqS HZ.out, NewI (hp41.mid hB ((((Mid.refl _ _ _).set _ _ (by omega) (by omega) _).set _ _ (by omega) (by omega) _))) HZ.out⟩

set_option maxHeartbeats 4000000 in
set_option maxRecDepth 100000 in
theorem wShift_dn_f (ao : Option Addr) (n cap X : Nat) (w : World) (hc : n ≤ cap) (hm : n ≤ 70368744177600) (hS : Seg w ao X n) (k : Nat) (h0 : 0 < k) (hk : k ≤ 1048576) (Z : Int) (hZ : sg false (X / 2 ^ k) = Z) : Calls Try.prog 7 #[.agg #[.bool false, .slice ao n cap], .int .i64 (-(k : Int))] w fun e w' => ∃ a', e = .returned (.tuple #[.agg #[.bool (ng Z), .slice a' (ln (am Z)) (ln (am Z))], .int .i64 0]) ∧ New w w' a' (am Z) (ln (am Z)) := by
  have hV : ln (X / 2 ^ k) ≤ n := ln_le_of_lt (Nat.lt_of_le_of_lt (Nat.div_le_self _ _) hS.1)
  have H1' := fun w' h => Shift_dnL ao n cap X k w' hc (by omega) h0 hk h
  obtain ⟨V, hV2⟩ : ∃ V, X / 2 ^ k = V := ⟨_, rfl⟩
  rw [hV2] at H1' hZ hV
  have H1 := hide' H1'
  have HZ := hide' hZ
  have hk0 : (-(k : Int)) < 0 := by omega
  have hk1 : ((-(k : Int)) != 0) = true := by rw [bne_iff_ne]; omega
  have hw : IntKind.i64.wrap (k : Int) = (k : Int) := by rw [IntKind.wrap_i64]; omega
  have hnn : - (-(k : Int)) = (k : Int) := by omega
  clear H1' hZ hV2
  go_enter Try.func7, Try.ntmps7
  go_wp2_with fail
  obtain ⟨W, hW⟩ : ∃ W, ((w.alloc (.cells #[.bool false, .slice ao n cap] 25)).alloc (.cells #[.bool false, .slice none 0 0] 25)) = W := ⟨_, rfl⟩
  have q00 : W.cell? ⟨w.heap.size, 0, none⟩ = some (.bool false) := by subst hW; go_simp
  have q01 : W.cell? ⟨w.heap.size, 1, none⟩ = some (.slice ao n cap) := by subst hW; go_simp
  have r00 : W.cell? ⟨w.heap.size + 1, 0, none⟩ = some (.bool false) := by subst hW; go_simp
  have r01 : W.cell? ⟨w.heap.size + 1, 1, none⟩ = some (.slice none 0 0) := by subst hW; go_simp
  have hB : Below w.heap.size w W := by subst hW; exact (((Below.refl _ _).alloc (by (try simp only [World.size_alloc]); omega) _).alloc (by (try simp only [World.size_alloc]); omega) _)
  have hR0 : Row W (w.heap.size + 1) := by
    have := row_new ((w.alloc (.cells #[.bool false, .slice ao n cap] 25))) #[.bool false, .slice none 0 0] 25
    try simp only [World.size_alloc] at this
    subst hW; exact this
  have hz : W.heap.size = w.heap.size + 1 + 1 := by subst hW; simp only [World.size_alloc]
  rw [hW]
  clear hW
  have hBW : Below W.heap.size W W := Below.refl _ _
  refine (H1.out _ (sb hS hB hBW)).mono ?_
  rintro e w41 ⟨p41, rfl, hp41⟩
  have b41 := hp41.below
  replace hp41 := hp41.back hBW
  replace hBW := hBW.trans (b41.mono hBW.size)
  replace q00 := below_cell b41 q00
  replace q01 := below_cell b41 q01
  replace r00 := below_cell b41 r00
  replace r01 := below_cell b41 r01
  replace hR0 := below_row b41 hR0
  go_wp2_with fail
  refine (side_any false _ _).mono ?_
  rintro e w42 ⟨rfl, b42⟩
  replace hBW := hBW.trans (b42.mono hBW.size)
  replace q00 := below_cell b42 q00
  replace q01 := below_cell b42 q01
  replace r00 := below_cell b42 r00
  replace r01 := below_cell b42 r01
  replace hR0 := below_row b42 hR0
  replace hp41 := hp41.later b42
  go_wp2_with fail
  refine (signed1 p41 (ln V) (ln V) false _ (by omega)).mono ?_
  rintro e w43 ⟨rfl, b43⟩
  replace hBW := hBW.trans (b43.mono hBW.size)
  replace q00 := below_cell b43 q00
  replace q01 := below_cell b43 q01
  replace r00 := below_cell b43 r00
  replace r01 := below_cell b43 r01
  replace hR0 := below_row b43 hR0
  replace hp41 := hp41.later b43
  have fz0 := fun o => hR0.frozen o
  go_wp2
  all_goals refine bodyPost_ret (v := .tuple #[.agg #[.bool (false && decide (0 < ln V)), .slice p41 (ln V) (ln V)], .int .i64 0]) (by rw [results_ctS rfl]; go_simp) rfl ?_
  all_goals exact ⟨p41, res_eqS HZ.out, NewI (hp41.mid hB ((((Mid.refl _ _ _).set _ _ (by omega) (by omega) _).set _ _ (by omega) (by omega) _))) HZ.out⟩

set_option maxHeartbeats 4000000 in
set_option maxRecDepth 100000 in
theorem wShift_dn_t0 (ao : Option Addr) (n cap X : Nat) (w : World) (hc : n ≤ cap) (hm : n ≤ 70368744177600) (hS : Seg w ao X n) (k : Nat) (h0 : 0 < k) (hk : k ≤ 1048576) (Z : Int) (hb : X % 2 ^ k = 0) (hZ : sg true (X / 2 ^ k) = Z) : Calls Try.prog 7 #[.agg #[.bool true, .slice ao n cap], .int .i64 (-(k : Int))] w fun e w' => ∃ a', e = .returned (.tuple #[.agg #[.bool (ng Z), .slice a' (ln (am Z)) (ln (am Z))], .int .i64 0]) ∧ New w w' a' (am Z) (ln (am Z)) := by
  have hV : ln (X / 2 ^ k) ≤ n := ln_le_of_lt (Nat.lt_of_le_of_lt (Nat.div_le_self _ _) hS.1)
  have H1' := fun w' h => Shift_dnL ao n cap X k w' hc (by omega) h0 hk h
  have H2' := fun w' h => anyBelow_is ao n cap X k w' hc (by omega) hk h
  rw [decide_eq_false (by simpa using hb)] at H2'
  have H2 := hide' H2'
  clear H2' hb
  obtain ⟨V, hV2⟩ : ∃ V, X / 2 ^ k = V := ⟨_, rfl⟩
  rw [hV2] at H1' hZ hV
  have H1 := hide' H1'
  have HZ := hide' hZ
  have hk0 : (-(k : Int)) < 0 := by omega
  have hk1 : ((-(k : Int)) != 0) = true := by rw [bne_iff_ne]; omega
  have hw : IntKind.i64.wrap (k : Int) = (k : Int) := by rw [IntKind.wrap_i64]; omega
  have hnn : - (-(k : Int)) = (k : Int) := by omega
  clear H1' hZ hV2
  go_enter Try.func7, Try.ntmps7
  go_wp2_with fail
  obtain ⟨W, hW⟩ : ∃ W, ((w.alloc (.cells #[.bool true, .slice ao n cap] 25)).alloc (.cells #[.bool false, .slice none 0 0] 25)) = W := ⟨_, rfl⟩
  have q00 : W.cell? ⟨w.heap.size, 0, none⟩ = some (.bool true) := by subst hW; go_simp
  have q01 : W.cell? ⟨w.heap.size, 1, none⟩ = some (.slice ao n cap) := by subst hW; go_simp
  have r00 : W.cell? ⟨w.heap.size + 1, 0, none⟩ = some (.bool false) := by subst hW; go_simp
  have r01 : W.cell? ⟨w.heap.size + 1, 1, none⟩ = some (.slice none 0 0) := by subst hW; go_simp
  have hB : Below w.heap.size w W := by subst hW; exact (((Below.refl _ _).alloc (by (try simp only [World.size_alloc]); omega) _).alloc (by (try simp only [World.size_alloc]); omega) _)
  have hR0 : Row W (w.heap.size + 1) := by
    have := row_new ((w.alloc (.cells #[.bool true, .slice ao n cap] 25))) #[.bool false, .slice none 0 0] 25
    try simp only [World.size_alloc] at this
    subst hW; exact this
  have hz : W.heap.size = w.heap.size + 1 + 1 := by subst hW; simp only [World.size_alloc]
  rw [hW]
  clear hW
  have hBW : Below W.heap.size W W := Below.refl _ _
  refine (H1.out _ (sb hS hB hBW)).mono ?_
  rintro e w41 ⟨p41, rfl, hp41⟩
  have b41 := hp41.below
  replace hp41 := hp41.back hBW
  replace hBW := hBW.trans (b41.mono hBW.size)
  replace q00 := below_cell b41 q00
  replace q01 := below_cell b41 q01
  replace r00 := below_cell b41 r00
  replace r01 := below_cell b41 r01
  replace hR0 := below_row b41 hR0
  go_wp2_with fail
  refine (H2.out _ (sb hS hB hBW)).mono ?_
  rintro e w42 ⟨rfl, rfl⟩
  go_wp2_with fail
  refine (side_any true _ _).mono ?_
  rintro e w42 ⟨rfl, b42⟩
  replace hBW := hBW.trans (b42.mono hBW.size)
  replace q00 := below_cell b42 q00
  replace q01 := below_cell b42 q01
  replace r00 := below_cell b42 r00
  replace r01 := below_cell b42 r01
  replace hR0 := below_row b42 hR0
  replace hp41 := hp41.later b42
  go_wp2_with fail
  refine (signed1 p41 (ln V) (ln V) true _ (by omega)).mono ?_
  rintro e w43 ⟨rfl, b43⟩
  replace hBW := hBW.trans (b43.mono hBW.size)
  replace q00 := below_cell b43 q00
  replace q01 := below_cell b43 q01
  replace r00 := below_cell b43 r00
  replace r01 := below_cell b43 r01
  replace hR0 := below_row b43 hR0
  replace hp41 := hp41.later b43
  have fz0 := fun o => hR0.frozen o
  go_wp2
  all_goals refine bodyPost_ret (v := .tuple #[.agg #[.bool (true && decide (0 < ln V)), .slice p41 (ln V) (ln V)], .int .i64 0]) (by rw [results_ctS rfl]; go_simp) rfl ?_
  all_goals exact ⟨p41, res_eqS HZ.out, NewI (hp41.mid hB ((((Mid.refl _ _ _).set _ _ (by omega) (by omega) _).set _ _ (by omega) (by omega) _))) HZ.out⟩

set_option maxHeartbeats 4000000 in
set_option maxRecDepth 100000 in
theorem wShift_dn_t1 (ao : Option Addr) (n cap X : Nat) (w : World) (hc : n ≤ cap) (hm : n ≤ 70368744177600) (hS : Seg w ao X n) (k : Nat) (h0 : 0 < k) (hk : k ≤ 1048576) (Z : Int) (hb : X % 2 ^ k ≠ 0) (hZ : sg true (X / 2 ^ k + 1) = Z) : Calls Try.prog 7 #[.agg #[.bool true, .slice ao n cap], .int .i64 (-(k : Int))] w fun e w' => ∃ a', e = .returned (.tuple #[.agg #[.bool (ng Z), .slice a' (ln (am Z)) (ln (am Z))], .int .i64 0]) ∧ New w w' a' (am Z) (ln (am Z)) := by
  have hV : ln (X / 2 ^ k) ≤ n := ln_le_of_lt (Nat.lt_of_le_of_lt (Nat.div_le_self _ _) hS.1)
  have H1' := fun w' h => Shift_dnL ao n cap X k w' hc (by omega) h0 hk h
  have H2' := fun w' h => anyBelow_is ao n cap X k w' hc (by omega) hk h
  rw [decide_eq_true (by simpa using hb)] at H2'
  have H2 := hide' H2'
  clear H2' hb
  obtain ⟨V, hV2⟩ : ∃ V, X / 2 ^ k = V := ⟨_, rfl⟩
  rw [hV2] at H1' hZ hV
  have H1 := hide' H1'
  have HZ := hide' hZ
  have hk0 : (-(k : Int)) < 0 := by omega
  have hk1 : ((-(k : Int)) != 0) = true := by rw [bne_iff_ne]; omega
  have hw : IntKind.i64.wrap (k : Int) = (k : Int) := by rw [IntKind.wrap_i64]; omega
  have hnn : - (-(k : Int)) = (k : Int) := by omega
  clear H1' hZ hV2
  have O1 := hide' (fun w' => Of_any 1 w' (by omega))
  have l1 : ln 1 = 1 := ln_one
  rw [l1] at O1
  have lV1 : ln (V + 1) ≤ n + 2 := ln_sum (Nat.lt_of_lt_of_le (ln_lt V) (pow_mono hV)) (show 1 < BB ^ 1 by rw [Nat.pow_one, BB_eq]; omega) (by omega) (by omega)
  go_enter Try.func7, Try.ntmps7
  go_wp2_with fail
  obtain ⟨W, hW⟩ : ∃ W, ((w.alloc (.cells #[.bool true, .slice ao n cap] 25)).alloc (.cells #[.bool false, .slice none 0 0] 25)) = W := ⟨_, rfl⟩
  have q00 : W.cell? ⟨w.heap.size, 0, none⟩ = some (.bool true) := by subst hW; go_simp
  have q01 : W.cell? ⟨w.heap.size, 1, none⟩ = some (.slice ao n cap) := by subst hW; go_simp
  have r00 : W.cell? ⟨w.heap.size + 1, 0, none⟩ = some (.bool false) := by subst hW; go_simp
  have r01 : W.cell? ⟨w.heap.size + 1, 1, none⟩ = some (.slice none 0 0) := by subst hW; go_simp
  have hB : Below w.heap.size w W := by subst hW; exact (((Below.refl _ _).alloc (by (try simp only [World.size_alloc]); omega) _).alloc (by (try simp only [World.size_alloc]); omega) _)
  have hR0 : Row W (w.heap.size + 1) := by
    have := row_new ((w.alloc (.cells #[.bool true, .slice ao n cap] 25))) #[.bool false, .slice none 0 0] 25
    try simp only [World.size_alloc] at this
    subst hW; exact this
  have hz : W.heap.size = w.heap.size + 1 + 1 := by subst hW; simp only [World.size_alloc]
  rw [hW]
  clear hW
  have hBW : Below W.heap.size W W := Below.refl _ _
  refine (H1.out _ (sb hS hB hBW)).mono ?_
  rintro e w41 ⟨p41, rfl, hp41⟩
  have b41 := hp41.below
  replace hp41 := hp41.back hBW
  replace hBW := hBW.trans (b41.mono hBW.size)
  replace q00 := below_cell b41 q00
  replace q01 := below_cell b41 q01
  replace r00 := below_cell b41 r00
  replace r01 := below_cell b41 r01
  replace hR0 := below_row b41 hR0
  go_wp2_with fail
  refine (H2.out _ (sb hS hB hBW)).mono ?_
  rintro e w42 ⟨rfl, rfl⟩
  go_wp2_with fail
  refine (O1.out _).mono ?_
  rintro e w42 ⟨p42, rfl, hp42⟩
  have b42 := hp42.below
  replace hp42 := hp42.back hBW
  replace hBW := hBW.trans (b42.mono hBW.size)
  replace q00 := below_cell b42 q00
  replace q01 := below_cell b42 q01
  replace r00 := below_cell b42 r00
  replace r01 := below_cell b42 r01
  replace hR0 := below_row b42 hR0
  replace hp41 := hp41.later b42
  go_wp2_with fail
  refine (Add_is p41 p42 (ln V) (ln V) V 1 1 1 (V + 1) _ (Nat.le_refl _) (by omega) hp41.seg (Nat.le_refl _) (by omega) hp42.seg rfl).mono ?_
  rintro e w43 ⟨p43, rfl, hp43⟩
  have b43 := hp43.below
  replace hp43 := hp43.back hBW
  replace hBW := hBW.trans (b43.mono hBW.size)
  replace q00 := below_cell b43 q00
  replace q01 := below_cell b43 q01
  replace r00 := below_cell b43 r00
  replace r01 := below_cell b43 r01
  replace hR0 := below_row b43 hR0
  replace hp41 := hp41.later b43
  replace hp42 := hp42.later b43
  go_wp2_with fail
  refine (side_any true _ _).mono ?_
  rintro e w44 ⟨rfl, b44⟩
  replace hBW := hBW.trans (b44.mono hBW.size)
  replace q00 := below_cell b44 q00
  replace q01 := below_cell b44 q01
  replace r00 := below_cell b44 r00
  replace r01 := below_cell b44 r01
  replace hR0 := below_row b44 hR0
  replace hp41 := hp41.later b44
  replace hp42 := hp42.later b44
  replace hp43 := hp43.later b44
  go_wp2_with fail
  refine (signed1 p43 (ln (V + 1)) (ln (V + 1)) true _ (by omega)).mono ?_
  rintro e w45 ⟨rfl, b45⟩
  replace hBW := hBW.trans (b45.mono hBW.size)
  replace q00 := below_cell b45 q00
  replace q01 := below_cell b45 q01
  replace r00 := below_cell b45 r00
  replace r01 := below_cell b45 r01
  replace hR0 := below_row b45 hR0
  replace hp41 := hp41.later b45
  replace hp42 := hp42.later b45
  replace hp43 := hp43.later b45
  have fz0 := fun o => hR0.frozen o
  go_wp2
  all_goals refine bodyPost_ret (v := .tuple #[.agg #[.bool (true && decide (0 < ln (V + 1))), .slice p43 (ln (V + 1)) (ln (V + 1))], .int .i64 0]) (by rw [results_ctS rfl]; go_simp) rfl ?_
  all_goals exact ⟨p43, res_eqS HZ.out, NewI (hp43.mid hB ((((Mid.refl _ _ _).set _ _ (by omega) (by omega) _).set _ _ (by omega) (by omega) _))) HZ.out⟩

theorem wShift_up (s : Bool) (ao : Option Addr) (n cap X : Nat) (w : World) (hc : n ≤ cap) (hm : n ≤ 35184372088832) (hS : Seg w ao X n) (k : Nat) (hk : k ≤ 1048576) (Z : Int) (hZ : sg s (X * 2 ^ k) = Z) :
    Calls Try.prog 7 #[.agg #[.bool s, .slice ao n cap], .int .i64 (k : Int)] w fun e w' => ∃ a', e = .returned (.tuple #[.agg #[.bool (ng Z), .slice a' (ln (am Z)) (ln (am Z))], .int .i64 0]) ∧ New w w' a' (am Z) (ln (am Z)) := by
  cases s
  · exact wShift_up_f ao n cap X w hc hm hS k hk Z hZ
  · exact wShift_up_t ao n cap X w hc hm hS k hk Z hZ
theorem wShift_dn (s : Bool) (ao : Option Addr) (n cap X : Nat) (w : World) (hc : n ≤ cap) (hm : n ≤ 70368744177600) (hS : Seg w ao X n) (k : Nat) (h0 : 0 < k) (hk : k ≤ 1048576) (Z : Int) (hZ : sg s (dnA s X k) = Z) :
    Calls Try.prog 7 #[.agg #[.bool s, .slice ao n cap], .int .i64 (-(k : Int))] w fun e w' => ∃ a', e = .returned (.tuple #[.agg #[.bool (ng Z), .slice a' (ln (am Z)) (ln (am Z))], .int .i64 0]) ∧ New w w' a' (am Z) (ln (am Z)) := by
  cases s
  · exact wShift_dn_f ao n cap X w hc hm hS k h0 hk Z (by unfold dnA at hZ; rw [if_neg (by simp)] at hZ; exact hZ)
  · by_cases hb : X % 2 ^ k = 0
    · exact wShift_dn_t0 ao n cap X w hc hm hS k h0 hk Z hb (by unfold dnA at hZ; rw [if_neg (fun h => h.2 hb)] at hZ; exact hZ)
    · exact wShift_dn_t1 ao n cap X w hc hm hS k h0 hk Z hb (by unfold dnA at hZ; rw [if_pos ⟨rfl, hb⟩] at hZ; exact hZ)
end Go.Proofs.Ytjdilgkjgednjaa
