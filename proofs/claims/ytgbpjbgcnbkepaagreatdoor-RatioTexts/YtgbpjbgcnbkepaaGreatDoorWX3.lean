/-
  Layer 3: Script, of both sides.
-/
import Derived.Test.YtgbpjbgcnbkepaaGreatDoorWX2
import Derived.Test.YtgbpjbgcnbkepaaGreatDoorWQ2
namespace Go.Proofs.YtgbpjbgcnbkepaaGreatDoor
open Go.RowKit
set_option linter.unusedVariables false

/-- the script's text of a number from 0 on: its digits, and those of its Den, if that is not 1 -/
def scr (x d : ByteArray) (V : Nat) : ByteArray := if V = 1 then x ++ ⟨#[46, 48]⟩ else ⟨#[40, 47, 32]⟩ ++ x ++ ⟨#[46, 48, 32]⟩ ++ d ++ ⟨#[46, 48, 41]⟩
theorem scr_size (x d : ByteArray) (V : Nat) : (scr x d V).size ≤ x.size + d.size + 9 := by
  have e1 : (⟨#[46, 48]⟩ : ByteArray).size = 2 := rfl
  have e2 : (⟨#[40, 47, 32]⟩ : ByteArray).size = 3 := rfl
  have e3 : (⟨#[46, 48, 32]⟩ : ByteArray).size = 3 := rfl
  have e4 : (⟨#[46, 48, 41]⟩ : ByteArray).size = 3 := rfl
  unfold scr
  split
  · rw [ByteArray.size_append, e1]; omega
  · simp only [ByteArray.size_append, e2, e3, e4]; omega
theorem ng_neg {Z : Int} (h : ng Z = true) : ng (-Z) = false := by
  unfold ng at *
  rw [decide_eq_true_eq] at h
  rw [decide_eq_false_iff_not]; omega
set_option maxHeartbeats 4000000 in
set_option maxRecDepth 100000 in
theorem qScript_one (s0 : Bool) (a0 : Option Addr) (n0 c0 X0 : Nat) (b0 : Option Addr) (m0 d0 Y0 : Nat) (Z : Int) (V : Nat) (x d : ByteArray) (w : World) (hc0 : n0 ≤ c0) (hm0 : n0 ≤ 134217728) (hS0 : Seg w a0 X0 n0) (hd0 : m0 ≤ d0) (hk0 : m0 ≤ 134217728) (hT0 : Seg w b0 Y0 m0) (hL : Low (rn s0 X0 Y0) (rd Y0 : Nat) Z V) (hn : ng Z = false) (hx : isTx 10 (am Z) x) (hd : isTx 10 V d) (h : Digs w) (h1 : V = 1) :
    Calls Tryz.prog 10 #[Value.agg #[Value.bool s0, Value.slice a0 n0 c0, Value.slice b0 m0 d0]] w fun e w' => e = .returned (.string (scr x d V)) ∧ Below w.heap.size w w' := by
  obtain ⟨lZ, lV⟩ := low_ln hS0.1 hT0.1 hL
  have zx := hx.size_le (by omega) (ln_lt (am Z))
  have zd := hd.size_le (by omega) (ln_lt V)
  have k1 : (⟨#[46, 48]⟩ : ByteArray).size = 2 := rfl
  have k2 : (⟨#[40, 47, 32]⟩ : ByteArray).size = 3 := rfl
  have k3 : (⟨#[46, 48, 32]⟩ : ByteArray).size = 3 := rfl
  have k4 : (⟨#[46, 48, 41]⟩ : ByteArray).size = 3 := rfl
  have k5 : (⟨#[40, 45, 32]⟩ : ByteArray).size = 3 := rfl
  have k6 : (⟨#[41]⟩ : ByteArray).size = 1 := rfl
  have y0 : ¬ (9223372036854775807 < x.size + 2) := by omega
  have z0 : x.size + 2 ≤ 9223372036854775807 := by omega
  have y1 : ¬ (9223372036854775807 < 3 + x.size) := by omega
  have z1 : 3 + x.size ≤ 9223372036854775807 := by omega
  have y2 : ¬ (9223372036854775807 < 3 + x.size + 3) := by omega
  have z2 : 3 + x.size + 3 ≤ 9223372036854775807 := by omega
  have y3 : ¬ (9223372036854775807 < 3 + x.size + 3 + d.size) := by omega
  have z3 : 3 + x.size + 3 + d.size ≤ 9223372036854775807 := by omega
  have y4 : ¬ (9223372036854775807 < 3 + x.size + 3 + d.size + 3) := by omega
  have z4 : 3 + x.size + 3 + d.size + 3 ≤ 9223372036854775807 := by omega
  have hs : scr x d V = x ++ ⟨#[46, 48]⟩ := by unfold scr; rw [if_pos h1]
  rw [hs]
  have I1 := hide' (fun w' p k => isOne_is p V w' (by omega) k)
  have X1 := hide' (fun w' a (k : Digs w') (g : Seg w' a (am Z) (ln (am Z))) => digits_is a (ln (am Z)) (ln (am Z)) (am Z) x w' k (Nat.le_refl _) (by omega) g hx)
  have D1 := hide' (fun w' a (k : Digs w') (g : Seg w' a V (ln V)) => digits_is a (ln V) (ln V) V d w' k (Nat.le_refl _) (by omega) g hd)
  have HH := hide' h
  rw [decide_eq_true h1] at I1
  have G1 := hide' hL
  clear hL hx hd h1 zx zd hs h
  go_enter Tryz.func10, Tryz.ntmps10
  go_wp2_with fail
  obtain ⟨W, hW⟩ : ∃ W, (w.alloc (.cells #[.bool s0, .slice a0 n0 c0, .slice b0 m0 d0] 27)) = W := ⟨_, rfl⟩
  have q00 : W.cell? ⟨w.heap.size, 0, none⟩ = some (.bool s0) := by subst hW; go_simp
  have q01 : W.cell? ⟨w.heap.size, 1, none⟩ = some (.slice a0 n0 c0) := by subst hW; go_simp
  have q02 : W.cell? ⟨w.heap.size, 2, none⟩ = some (.slice b0 m0 d0) := by subst hW; go_simp
  have hB : Below w.heap.size w W := by subst hW; exact ((Below.refl _ _).alloc (by (try simp only [World.size_alloc]); omega) _)
  have hz : W.heap.size = w.heap.size + 1 := by subst hW; simp only [World.size_alloc]
  rw [hW]
  clear hW
  have hBW : Below W.heap.size W W := Below.refl _ _
  refine (qNorm_is s0 a0 n0 c0 X0 b0 m0 d0 Y0 Z V _ hc0 (by omega) (sb hS0 hB hBW) hd0 (by omega) (sb hT0 hB hBW) G1.out).mono ?_
  rintro e w41 ⟨p41, q41, rfl, hp41, hq41⟩
  have b41 := hp41.below
  replace hp41 := hp41.back hBW
  replace hq41 := hq41.back hBW
  replace hBW := hBW.trans (b41.mono hBW.size)
  replace q00 := below_cell b41 q00
  replace q01 := below_cell b41 q01
  replace q02 := below_cell b41 q02
  rw [hn]
  have hsz41 := hBW.size
  have l4100 : ((w41.alloc (.cells #[.bool false, .slice p41 (ln (am Z)) (ln (am Z)), .slice q41 (ln V) (ln V)] 27))).cell? ⟨w41.heap.size, 0, none⟩ = some (.bool false) := by go_simp
  have l4101 : ((w41.alloc (.cells #[.bool false, .slice p41 (ln (am Z)) (ln (am Z)), .slice q41 (ln V) (ln V)] 27))).cell? ⟨w41.heap.size, 1, none⟩ = some (.slice p41 (ln (am Z)) (ln (am Z))) := by go_simp
  have l4102 : ((w41.alloc (.cells #[.bool false, .slice p41 (ln (am Z)) (ln (am Z)), .slice q41 (ln V) (ln V)] 27))).cell? ⟨w41.heap.size, 2, none⟩ = some (.slice q41 (ln V) (ln V)) := by go_simp
  have cb41 : Below w41.heap.size w41 ((w41.alloc (.cells #[.bool false, .slice p41 (ln (am Z)) (ln (am Z)), .slice q41 (ln V) (ln V)] 27))) := ((Below.refl _ _).alloc (by (try simp only [World.size_alloc]); omega) _)
  replace hBW := hBW.trans (cb41.mono hBW.size)
  replace q00 := below_cell cb41 q00
  replace q01 := below_cell cb41 q01
  replace q02 := below_cell cb41 q02
  replace hp41 := hp41.later cb41
  replace hq41 := hq41.later cb41
  have hL410 : Row ((w41.alloc (.cells #[.bool false, .slice p41 (ln (am Z)) (ln (am Z)), .slice q41 (ln V) (ln V)] 27))) (w41.heap.size) := by
    have := row_new (w41) #[.bool false, .slice p41 (ln (am Z)) (ln (am Z)), .slice q41 (ln V) (ln V)] 27
    try simp only [World.size_alloc] at this
    exact this
  go_wp2_with fail
  generalize (w41.alloc (.cells #[.bool false, .slice p41 (ln (am Z)) (ln (am Z)), .slice q41 (ln V) (ln V)] 27)) = w41x at q00 q01 q02 l4100 l4101 l4102 hL410 hp41 hq41 hBW cb41 ⊢
  clear cb41
  refine (I1.out _ _ hq41.seg).mono ?_
  rintro e w42 ⟨rfl, rfl⟩
  go_wp2_with fail
  refine (X1.out _ _ (HH.out.below (hB.trans (hBW.mono hB.size))) hp41.seg).mono ?_
  rintro e w43 ⟨rfl, b43⟩
  replace hBW := hBW.trans (b43.mono hBW.size)
  replace q00 := below_cell b43 q00
  replace q01 := below_cell b43 q01
  replace q02 := below_cell b43 q02
  replace l4100 := below_cell b43 l4100
  replace l4101 := below_cell b43 l4101
  replace l4102 := below_cell b43 l4102
  replace hL410 := below_row b43 hL410
  replace hp41 := hp41.later b43
  replace hq41 := hq41.later b43
  go_wp2
  go_ret
  exact ⟨rfl, (hB.trans (hBW.mono hB.size))⟩

set_option maxHeartbeats 4000000 in
set_option maxRecDepth 100000 in
theorem qScript_more (s0 : Bool) (a0 : Option Addr) (n0 c0 X0 : Nat) (b0 : Option Addr) (m0 d0 Y0 : Nat) (Z : Int) (V : Nat) (x d : ByteArray) (w : World) (hc0 : n0 ≤ c0) (hm0 : n0 ≤ 134217728) (hS0 : Seg w a0 X0 n0) (hd0 : m0 ≤ d0) (hk0 : m0 ≤ 134217728) (hT0 : Seg w b0 Y0 m0) (hL : Low (rn s0 X0 Y0) (rd Y0 : Nat) Z V) (hn : ng Z = false) (hx : isTx 10 (am Z) x) (hd : isTx 10 V d) (h : Digs w) (h1 : V ≠ 1) :
    Calls Tryz.prog 10 #[Value.agg #[Value.bool s0, Value.slice a0 n0 c0, Value.slice b0 m0 d0]] w fun e w' => e = .returned (.string (scr x d V)) ∧ Below w.heap.size w w' := by
  obtain ⟨lZ, lV⟩ := low_ln hS0.1 hT0.1 hL
  have zx := hx.size_le (by omega) (ln_lt (am Z))
  have zd := hd.size_le (by omega) (ln_lt V)
  have k1 : (⟨#[46, 48]⟩ : ByteArray).size = 2 := rfl
  have k2 : (⟨#[40, 47, 32]⟩ : ByteArray).size = 3 := rfl
  have k3 : (⟨#[46, 48, 32]⟩ : ByteArray).size = 3 := rfl
  have k4 : (⟨#[46, 48, 41]⟩ : ByteArray).size = 3 := rfl
  have k5 : (⟨#[40, 45, 32]⟩ : ByteArray).size = 3 := rfl
  have k6 : (⟨#[41]⟩ : ByteArray).size = 1 := rfl
  have y0 : ¬ (9223372036854775807 < x.size + 2) := by omega
  have z0 : x.size + 2 ≤ 9223372036854775807 := by omega
  have y1 : ¬ (9223372036854775807 < 3 + x.size) := by omega
  have z1 : 3 + x.size ≤ 9223372036854775807 := by omega
  have y2 : ¬ (9223372036854775807 < 3 + x.size + 3) := by omega
  have z2 : 3 + x.size + 3 ≤ 9223372036854775807 := by omega
  have y3 : ¬ (9223372036854775807 < 3 + x.size + 3 + d.size) := by omega
  have z3 : 3 + x.size + 3 + d.size ≤ 9223372036854775807 := by omega
  have y4 : ¬ (9223372036854775807 < 3 + x.size + 3 + d.size + 3) := by omega
  have z4 : 3 + x.size + 3 + d.size + 3 ≤ 9223372036854775807 := by omega
  have hs : scr x d V = ⟨#[40, 47, 32]⟩ ++ x ++ ⟨#[46, 48, 32]⟩ ++ d ++ ⟨#[46, 48, 41]⟩ := by unfold scr; rw [if_neg h1]
  rw [hs]
  have I1 := hide' (fun w' p k => isOne_is p V w' (by omega) k)
  have X1 := hide' (fun w' a (k : Digs w') (g : Seg w' a (am Z) (ln (am Z))) => digits_is a (ln (am Z)) (ln (am Z)) (am Z) x w' k (Nat.le_refl _) (by omega) g hx)
  have D1 := hide' (fun w' a (k : Digs w') (g : Seg w' a V (ln V)) => digits_is a (ln V) (ln V) V d w' k (Nat.le_refl _) (by omega) g hd)
  have HH := hide' h
  rw [decide_eq_false h1] at I1
  have G1 := hide' hL
  clear hL hx hd h1 zx zd hs h
  go_enter Tryz.func10, Tryz.ntmps10
  go_wp2_with fail
  obtain ⟨W, hW⟩ : ∃ W, (w.alloc (.cells #[.bool s0, .slice a0 n0 c0, .slice b0 m0 d0] 27)) = W := ⟨_, rfl⟩
  have q00 : W.cell? ⟨w.heap.size, 0, none⟩ = some (.bool s0) := by subst hW; go_simp
  have q01 : W.cell? ⟨w.heap.size, 1, none⟩ = some (.slice a0 n0 c0) := by subst hW; go_simp
  have q02 : W.cell? ⟨w.heap.size, 2, none⟩ = some (.slice b0 m0 d0) := by subst hW; go_simp
  have hB : Below w.heap.size w W := by subst hW; exact ((Below.refl _ _).alloc (by (try simp only [World.size_alloc]); omega) _)
  have hz : W.heap.size = w.heap.size + 1 := by subst hW; simp only [World.size_alloc]
  rw [hW]
  clear hW
  have hBW : Below W.heap.size W W := Below.refl _ _
  refine (qNorm_is s0 a0 n0 c0 X0 b0 m0 d0 Y0 Z V _ hc0 (by omega) (sb hS0 hB hBW) hd0 (by omega) (sb hT0 hB hBW) G1.out).mono ?_
  rintro e w41 ⟨p41, q41, rfl, hp41, hq41⟩
  have b41 := hp41.below
  replace hp41 := hp41.back hBW
  replace hq41 := hq41.back hBW
  replace hBW := hBW.trans (b41.mono hBW.size)
  replace q00 := below_cell b41 q00
  replace q01 := below_cell b41 q01
  replace q02 := below_cell b41 q02
  rw [hn]
  have hsz41 := hBW.size
  have l4100 : ((w41.alloc (.cells #[.bool false, .slice p41 (ln (am Z)) (ln (am Z)), .slice q41 (ln V) (ln V)] 27))).cell? ⟨w41.heap.size, 0, none⟩ = some (.bool false) := by go_simp
  have l4101 : ((w41.alloc (.cells #[.bool false, .slice p41 (ln (am Z)) (ln (am Z)), .slice q41 (ln V) (ln V)] 27))).cell? ⟨w41.heap.size, 1, none⟩ = some (.slice p41 (ln (am Z)) (ln (am Z))) := by go_simp
  have l4102 : ((w41.alloc (.cells #[.bool false, .slice p41 (ln (am Z)) (ln (am Z)), .slice q41 (ln V) (ln V)] 27))).cell? ⟨w41.heap.size, 2, none⟩ = some (.slice q41 (ln V) (ln V)) := by go_simp
  have cb41 : Below w41.heap.size w41 ((w41.alloc (.cells #[.bool false, .slice p41 (ln (am Z)) (ln (am Z)), .slice q41 (ln V) (ln V)] 27))) := ((Below.refl _ _).alloc (by (try simp only [World.size_alloc]); omega) _)
  replace hBW := hBW.trans (cb41.mono hBW.size)
  replace q00 := below_cell cb41 q00
  replace q01 := below_cell cb41 q01
  replace q02 := below_cell cb41 q02
  replace hp41 := hp41.later cb41
  replace hq41 := hq41.later cb41
  have hL410 : Row ((w41.alloc (.cells #[.bool false, .slice p41 (ln (am Z)) (ln (am Z)), .slice q41 (ln V) (ln V)] 27))) (w41.heap.size) := by
    have := row_new (w41) #[.bool false, .slice p41 (ln (am Z)) (ln (am Z)), .slice q41 (ln V) (ln V)] 27
    try simp only [World.size_alloc] at this
    exact this
  go_wp2_with fail
  generalize (w41.alloc (.cells #[.bool false, .slice p41 (ln (am Z)) (ln (am Z)), .slice q41 (ln V) (ln V)] 27)) = w41x at q00 q01 q02 l4100 l4101 l4102 hL410 hp41 hq41 hBW cb41 ⊢
  clear cb41
  refine (I1.out _ _ hq41.seg).mono ?_
  rintro e w42 ⟨rfl, rfl⟩
  go_wp2_with fail
  replace hBW := hBW.drew
  replace hp41 := hp41.drew
  replace hq41 := hq41.drew
  first
    | go_region_held3 (fun w' => w'.cell? ⟨w.heap.size, 0, none⟩ = some (.bool s0) ∧ w'.cell? ⟨w.heap.size, 1, none⟩ = some (.slice a0 n0 c0) ∧ w'.cell? ⟨w.heap.size, 2, none⟩ = some (.slice b0 m0 d0) ∧ w'.cell? ⟨w41.heap.size, 0, none⟩ = some (.bool false) ∧ w'.cell? ⟨w41.heap.size, 1, none⟩ = some (.slice p41 (ln (am Z)) (ln (am Z))) ∧ w'.cell? ⟨w41.heap.size, 2, none⟩ = some (.slice q41 (ln V) (ln V)) ∧ Below w.heap.size w w')
        (first | exact ⟨q00, q01, q02, l4100, l4101, l4102, hB.trans (hBW.mono hB.size)⟩ | exact kp6 b43 (by assumption) | exact kp6 b44 (by assumption) | exact kp6 (below_alloc _) (by assumption))
        (first
          | (go_at_call 19; go_at_call_of 19 (Value.slice p41 (ln (am Z)) (ln (am Z))); refine (X1.out _ _ (HH.out.below (hB.trans (hBW.mono hB.size))) hp41.seg).mono ?_; rintro e w43 ⟨rfl, b43⟩; replace hBW := hBW.trans (b43.mono hBW.size); replace q00 := below_cell b43 q00; replace q01 := below_cell b43 q01; replace q02 := below_cell b43 q02; replace l4100 := below_cell b43 l4100; replace l4101 := below_cell b43 l4101; replace l4102 := below_cell b43 l4102; replace hL410 := below_row b43 hL410; replace hp41 := hp41.later b43; replace hq41 := hq41.later b43)
          | (go_at_call 19; go_at_call_of 19 (Value.slice q41 (ln V) (ln V)); refine (D1.out _ _ (HH.out.below (hB.trans (hBW.mono hB.size))) hq41.seg).mono ?_; rintro e w44 ⟨rfl, b44⟩; replace hBW := hBW.trans (b44.mono hBW.size); replace q00 := below_cell b44 q00; replace q01 := below_cell b44 q01; replace q02 := below_cell b44 q02; replace l4100 := below_cell b44 l4100; replace l4101 := below_cell b44 l4101; replace l4102 := below_cell b44 l4102; replace hL410 := below_row b44 hL410; replace hp41 := hp41.later b44; replace hq41 := hq41.later b44))
    | fail
  go_wp2
  go_ret
  exact ⟨rfl, (hB.trans (hBW.mono hB.size))⟩

set_option maxHeartbeats 4000000 in
set_option maxRecDepth 100000 in
theorem qScript_pos (s0 : Bool) (a0 : Option Addr) (n0 c0 X0 : Nat) (b0 : Option Addr) (m0 d0 Y0 : Nat) (Z : Int) (V : Nat) (x d : ByteArray) (w : World) (hc0 : n0 ≤ c0) (hm0 : n0 ≤ 134217728) (hS0 : Seg w a0 X0 n0) (hd0 : m0 ≤ d0) (hk0 : m0 ≤ 134217728) (hT0 : Seg w b0 Y0 m0) (hL : Low (rn s0 X0 Y0) (rd Y0 : Nat) Z V) (hn : ng Z = false) (hx : isTx 10 (am Z) x) (hd : isTx 10 V d) (h : Digs w) :
    Calls Tryz.prog 10 #[Value.agg #[Value.bool s0, Value.slice a0 n0 c0, Value.slice b0 m0 d0]] w fun e w' => e = .returned (.string (scr x d V)) ∧ Below w.heap.size w w' := by
  by_cases h1 : V = 1
  · exact qScript_one s0 a0 n0 c0 X0 b0 m0 d0 Y0 Z V x d w hc0 hm0 hS0 hd0 hk0 hT0 hL hn hx hd h h1
  · exact qScript_more s0 a0 n0 c0 X0 b0 m0 d0 Y0 Z V x d w hc0 hm0 hS0 hd0 hk0 hT0 hL hn hx hd h h1

set_option maxHeartbeats 4000000 in
set_option maxRecDepth 100000 in
theorem qScript_neg (s0 : Bool) (a0 : Option Addr) (n0 c0 X0 : Nat) (b0 : Option Addr) (m0 d0 Y0 : Nat) (Z : Int) (V : Nat) (x d : ByteArray) (w : World) (hc0 : n0 ≤ c0) (hm0 : n0 ≤ 67108864) (hS0 : Seg w a0 X0 n0) (hd0 : m0 ≤ d0) (hk0 : m0 ≤ 67108864) (hT0 : Seg w b0 Y0 m0) (hL : Low (rn s0 X0 Y0) (rd Y0 : Nat) Z V) (hn : ng Z = true) (hx : isTx 10 (am Z) x) (hd : isTx 10 V d) (h : Digs w) :
    Calls Tryz.prog 10 #[Value.agg #[Value.bool s0, Value.slice a0 n0 c0, Value.slice b0 m0 d0]] w fun e w' => e = .returned (.string (⟨#[40, 45, 32]⟩ ++ scr x d V ++ ⟨#[41]⟩)) ∧ Below w.heap.size w w' := by
  obtain ⟨lZ, lV⟩ := low_ln hS0.1 hT0.1 hL
  have zx := hx.size_le (by omega) (ln_lt (am Z))
  have zd := hd.size_le (by omega) (ln_lt V)
  have zs := scr_size x d V
  obtain ⟨N, hN⟩ : ∃ N, -Z = N := ⟨_, rfl⟩
  have aN : am N = am Z := by rw [← hN, am_neg]
  have nN : ng N = false := by rw [← hN]; exact ng_neg hn
  have lN : ln (am N) ≤ 67108865 := by rw [aN]; omega
  rw [← aN] at hx
  have hL2 : Low N (V : Int) N V := by rw [← hN]; exact (Low.self hL.pos hL.cop).neg
  have hL3 := hL2.nf hL.pos
  have hL4 : Low (-(rn (ng Z) (am Z) V)) ((rd V : Nat) : Int) N V := by rw [rn_nf hL.pos, rd_nf hL.pos, hN]; exact hL2
  have S2' := fun w' p q k g j => qScript_pos (ng N) p (ln (am N)) (ln (am N)) (am N) q (ln V) (ln V) V N V x d w' (Nat.le_refl _) (by omega) k (Nat.le_refl _) (by omega) g hL3 nN hx hd j
  obtain ⟨sc, hsc⟩ : ∃ sc, scr x d V = sc := ⟨_, rfl⟩
  rw [hsc] at S2' zs ⊢
  have S2 := hide' S2'
  have k1 : (⟨#[46, 48]⟩ : ByteArray).size = 2 := rfl
  have k2 : (⟨#[40, 47, 32]⟩ : ByteArray).size = 3 := rfl
  have k3 : (⟨#[46, 48, 32]⟩ : ByteArray).size = 3 := rfl
  have k4 : (⟨#[46, 48, 41]⟩ : ByteArray).size = 3 := rfl
  have k5 : (⟨#[40, 45, 32]⟩ : ByteArray).size = 3 := rfl
  have k6 : (⟨#[41]⟩ : ByteArray).size = 1 := rfl
  have y0 : ¬ (9223372036854775807 < 3 + sc.size) := by omega
  have z0 : 3 + sc.size ≤ 9223372036854775807 := by omega
  have y1 : ¬ (9223372036854775807 < 3 + sc.size + 1) := by omega
  have z1 : 3 + sc.size + 1 ≤ 9223372036854775807 := by omega
  have Q1' := fun w' p q k g => qNeg_is (ng Z) p (ln (am Z)) (ln (am Z)) (am Z) q (ln V) (ln V) V N V w' (Nat.le_refl _) (by omega) k (Nat.le_refl _) (by omega) g hL4
  rw [hn] at Q1'
  have Q1 := hide' Q1'
  clear Q1'
  have G1 := hide' hL
  have G4 := hide' hL4
  have HH := hide' h
  clear S2' hL hL2 hL3 hL4 hx hd hN aN nN zx zd zs hsc h
  go_enter Tryz.func10, Tryz.ntmps10
  go_wp2_with fail
  obtain ⟨W, hW⟩ : ∃ W, (w.alloc (.cells #[.bool s0, .slice a0 n0 c0, .slice b0 m0 d0] 27)) = W := ⟨_, rfl⟩
  have q00 : W.cell? ⟨w.heap.size, 0, none⟩ = some (.bool s0) := by subst hW; go_simp
  have q01 : W.cell? ⟨w.heap.size, 1, none⟩ = some (.slice a0 n0 c0) := by subst hW; go_simp
  have q02 : W.cell? ⟨w.heap.size, 2, none⟩ = some (.slice b0 m0 d0) := by subst hW; go_simp
  have hB : Below w.heap.size w W := by subst hW; exact ((Below.refl _ _).alloc (by (try simp only [World.size_alloc]); omega) _)
  have hz : W.heap.size = w.heap.size + 1 := by subst hW; simp only [World.size_alloc]
  rw [hW]
  clear hW
  have hBW : Below W.heap.size W W := Below.refl _ _
  refine (qNorm_is s0 a0 n0 c0 X0 b0 m0 d0 Y0 Z V _ hc0 (by omega) (sb hS0 hB hBW) hd0 (by omega) (sb hT0 hB hBW) G1.out).mono ?_
  rintro e w41 ⟨p41, q41, rfl, hp41, hq41⟩
  have b41 := hp41.below
  replace hp41 := hp41.back hBW
  replace hq41 := hq41.back hBW
  replace hBW := hBW.trans (b41.mono hBW.size)
  replace q00 := below_cell b41 q00
  replace q01 := below_cell b41 q01
  replace q02 := below_cell b41 q02
  rw [hn]
  have hsz41 := hBW.size
  have l4100 : ((w41.alloc (.cells #[.bool true, .slice p41 (ln (am Z)) (ln (am Z)), .slice q41 (ln V) (ln V)] 27))).cell? ⟨w41.heap.size, 0, none⟩ = some (.bool true) := by go_simp
  have l4101 : ((w41.alloc (.cells #[.bool true, .slice p41 (ln (am Z)) (ln (am Z)), .slice q41 (ln V) (ln V)] 27))).cell? ⟨w41.heap.size, 1, none⟩ = some (.slice p41 (ln (am Z)) (ln (am Z))) := by go_simp
  have l4102 : ((w41.alloc (.cells #[.bool true, .slice p41 (ln (am Z)) (ln (am Z)), .slice q41 (ln V) (ln V)] 27))).cell? ⟨w41.heap.size, 2, none⟩ = some (.slice q41 (ln V) (ln V)) := by go_simp
  have cb41 : Below w41.heap.size w41 ((w41.alloc (.cells #[.bool true, .slice p41 (ln (am Z)) (ln (am Z)), .slice q41 (ln V) (ln V)] 27))) := ((Below.refl _ _).alloc (by (try simp only [World.size_alloc]); omega) _)
  replace hBW := hBW.trans (cb41.mono hBW.size)
  replace q00 := below_cell cb41 q00
  replace q01 := below_cell cb41 q01
  replace q02 := below_cell cb41 q02
  replace hp41 := hp41.later cb41
  replace hq41 := hq41.later cb41
  have hL410 : Row ((w41.alloc (.cells #[.bool true, .slice p41 (ln (am Z)) (ln (am Z)), .slice q41 (ln V) (ln V)] 27))) (w41.heap.size) := by
    have := row_new (w41) #[.bool true, .slice p41 (ln (am Z)) (ln (am Z)), .slice q41 (ln V) (ln V)] 27
    try simp only [World.size_alloc] at this
    exact this
  go_wp2_with fail
  generalize (w41.alloc (.cells #[.bool true, .slice p41 (ln (am Z)) (ln (am Z)), .slice q41 (ln V) (ln V)] 27)) = w41x at q00 q01 q02 l4100 l4101 l4102 hL410 hp41 hq41 hBW cb41 ⊢
  clear cb41
  refine (Q1.out _ p41 q41 hp41.seg hq41.seg).mono ?_
  rintro e w42 ⟨p42, q42, rfl, hp42, hq42⟩
  have b42 := hp42.below
  replace hp42 := hp42.back hBW
  replace hq42 := hq42.back hBW
  replace hBW := hBW.trans (b42.mono hBW.size)
  replace q00 := below_cell b42 q00
  replace q01 := below_cell b42 q01
  replace q02 := below_cell b42 q02
  replace l4100 := below_cell b42 l4100
  replace l4101 := below_cell b42 l4101
  replace l4102 := below_cell b42 l4102
  replace hL410 := below_row b42 hL410
  replace hp41 := hp41.later b42
  replace hq41 := hq41.later b42
  go_wp2_with fail
  refine (S2.out _ _ _ hp42.seg hq42.seg (HH.out.below (hB.trans (hBW.mono hB.size)))).mono ?_
  rintro e w43 ⟨rfl, b43⟩
  replace hBW := hBW.trans (b43.mono hBW.size)
  replace q00 := below_cell b43 q00
  replace q01 := below_cell b43 q01
  replace q02 := below_cell b43 q02
  replace l4100 := below_cell b43 l4100
  replace l4101 := below_cell b43 l4101
  replace l4102 := below_cell b43 l4102
  replace hL410 := below_row b43 hL410
  replace hp41 := hp41.later b43
  replace hq41 := hq41.later b43
  replace hp42 := hp42.later b43
  replace hq42 := hq42.later b43
  go_wp2
  go_ret
  exact ⟨rfl, (hB.trans (hBW.mono hB.size))⟩

set_option maxHeartbeats 4000000 in
set_option maxRecDepth 100000 in
theorem vqScript_one (s0 : Bool) (a0 : Option Addr) (n0 c0 X0 : Nat) (b0 : Option Addr) (m0 d0 Y0 : Nat) (Z : Int) (V : Nat) (x d : ByteArray) (w : World) (hc0 : n0 ≤ c0) (hm0 : n0 ≤ 134217728) (hS0 : Seg w a0 X0 n0) (hd0 : m0 ≤ d0) (hk0 : m0 ≤ 134217728) (hT0 : Seg w b0 Y0 m0) (hL : Low (rn s0 X0 Y0) (rd Y0 : Nat) Z V) (hn : ng Z = false) (hx : isTx 10 (am Z) x) (hd : isTx 10 V d) (h1 : V = 1) :
    Calls Tryz.prog 11 #[Value.agg #[Value.bool s0, Value.slice a0 n0 c0, Value.slice b0 m0 d0]] w fun e w' => e = .returned (.string (scr x d V)) ∧ Below w.heap.size w w' := by
  obtain ⟨lZ, lV⟩ := low_ln hS0.1 hT0.1 hL
  have zx := hx.size_le (by omega) (ln_lt (am Z))
  have zd := hd.size_le (by omega) (ln_lt V)
  have k1 : (⟨#[46, 48]⟩ : ByteArray).size = 2 := rfl
  have k2 : (⟨#[40, 47, 32]⟩ : ByteArray).size = 3 := rfl
  have k3 : (⟨#[46, 48, 32]⟩ : ByteArray).size = 3 := rfl
  have k4 : (⟨#[46, 48, 41]⟩ : ByteArray).size = 3 := rfl
  have k5 : (⟨#[40, 45, 32]⟩ : ByteArray).size = 3 := rfl
  have k6 : (⟨#[41]⟩ : ByteArray).size = 1 := rfl
  have y0 : ¬ (9223372036854775807 < x.size + 2) := by omega
  have z0 : x.size + 2 ≤ 9223372036854775807 := by omega
  have y1 : ¬ (9223372036854775807 < 3 + x.size) := by omega
  have z1 : 3 + x.size ≤ 9223372036854775807 := by omega
  have y2 : ¬ (9223372036854775807 < 3 + x.size + 3) := by omega
  have z2 : 3 + x.size + 3 ≤ 9223372036854775807 := by omega
  have y3 : ¬ (9223372036854775807 < 3 + x.size + 3 + d.size) := by omega
  have z3 : 3 + x.size + 3 + d.size ≤ 9223372036854775807 := by omega
  have y4 : ¬ (9223372036854775807 < 3 + x.size + 3 + d.size + 3) := by omega
  have z4 : 3 + x.size + 3 + d.size + 3 ≤ 9223372036854775807 := by omega
  have hs : scr x d V = x ++ ⟨#[46, 48]⟩ := by unfold scr; rw [if_pos h1]
  rw [hs]
  have I1 := hide' (fun w' p a1 k g => rSame_one p a1 V w' (by omega) k g)
  have X1 := hide' (fun w' a (g : Seg w' a (am Z) (ln (am Z))) => vdigits_is a (ln (am Z)) (ln (am Z)) (am Z) x w' (by omega) g hx)
  have D1 := hide' (fun w' a (g : Seg w' a V (ln V)) => vdigits_is a (ln V) (ln V) V d w' (by omega) g hd)
  obtain ⟨C, hC, hC0⟩ : ∃ C : Int, sgn (rn (ng Z) (am Z) V) = C ∧ ¬ (C < 0) := ⟨_, rfl, by rw [rn_nf hL.pos]; unfold ng at hn; rw [decide_eq_false_iff_not] at hn; rcases Int.lt_or_le 0 Z with h | h; (rw [sgn_pos h]; decide); (rw [show Z = 0 by omega]; decide)⟩
  have S1 := hide' (fun w' p q k g => vqSign_is (ng Z) p (ln (am Z)) (ln (am Z)) (am Z) q (ln V) (ln V) V C w' (Nat.le_refl _) (by omega) k (Nat.le_refl _) (by omega) g hC)
  clear hC
  rw [decide_eq_true h1] at I1
  have G1 := hide' hL
  clear hL hx hd h1 zx zd hs hn
  go_enter Tryz.func11, Tryz.ntmps11
  go_wp2_with fail
  obtain ⟨W, hW⟩ : ∃ W, (w.alloc (.cells #[.bool s0, .slice a0 n0 c0, .slice b0 m0 d0] 27)) = W := ⟨_, rfl⟩
  have q00 : W.cell? ⟨w.heap.size, 0, none⟩ = some (.bool s0) := by subst hW; go_simp
  have q01 : W.cell? ⟨w.heap.size, 1, none⟩ = some (.slice a0 n0 c0) := by subst hW; go_simp
  have q02 : W.cell? ⟨w.heap.size, 2, none⟩ = some (.slice b0 m0 d0) := by subst hW; go_simp
  have hB : Below w.heap.size w W := by subst hW; exact ((Below.refl _ _).alloc (by (try simp only [World.size_alloc]); omega) _)
  have hP0 : Row W (w.heap.size) := by
    have := row_new (w) #[.bool s0, .slice a0 n0 c0, .slice b0 m0 d0] 27
    try simp only [World.size_alloc] at this
    subst hW; exact this
  have hz : W.heap.size = w.heap.size + 1 := by subst hW; simp only [World.size_alloc]
  rw [hW]
  clear hW
  have hBW : Below W.heap.size W W := Below.refl _ _
  refine (vqNorm_is s0 a0 n0 c0 X0 b0 m0 d0 Y0 V Z _ (by omega) (sb hS0 hB hBW) (by omega) (sb hT0 hB hBW) G1.out).mono ?_
  rintro e w41 ⟨p41, q41, rfl, hp41, hq41⟩
  have b41 := hp41.below
  replace hp41 := hp41.back hBW
  replace hq41 := hq41.back hBW
  replace hBW := hBW.trans (b41.mono hBW.size)
  replace q00 := below_cell b41 q00
  replace q01 := below_cell b41 q01
  replace q02 := below_cell b41 q02
  replace hP0 := below_row b41 hP0
  have hsB := hBW.size
  have hM : Mid w.heap.size W.heap.size w41 (((w41.setCell ⟨w.heap.size, 0, none⟩ (.bool (ng Z))).setCell ⟨w.heap.size, 1, none⟩ (.slice p41 (ln (am Z)) (ln (am Z)))).setCell ⟨w.heap.size, 2, none⟩ (.slice q41 (ln V) (ln V))) := ((((Mid.refl _ _ _).set _ _ (by omega) (by omega) _).set _ _ (by omega) (by omega) _).set _ _ (by omega) (by omega) _)
  have eM := set3_same (w := w41) (c := w.heap.size) (u0 := .bool (ng Z)) (u1 := .slice p41 (ln (am Z)) (ln (am Z))) (u2 := .slice q41 (ln V) (ln V)) q00 q01 q02
  have q00_ : ((((w41.setCell ⟨w.heap.size, 0, none⟩ (.bool (ng Z))).setCell ⟨w.heap.size, 1, none⟩ (.slice p41 (ln (am Z)) (ln (am Z)))).setCell ⟨w.heap.size, 2, none⟩ (.slice q41 (ln V) (ln V)))).cell? ⟨w.heap.size, 0, none⟩ = some (.bool (ng Z)) := eM.1
  have q01_ : ((((w41.setCell ⟨w.heap.size, 0, none⟩ (.bool (ng Z))).setCell ⟨w.heap.size, 1, none⟩ (.slice p41 (ln (am Z)) (ln (am Z)))).setCell ⟨w.heap.size, 2, none⟩ (.slice q41 (ln V) (ln V)))).cell? ⟨w.heap.size, 1, none⟩ = some (.slice p41 (ln (am Z)) (ln (am Z))) := eM.2.1
  have q02_ : ((((w41.setCell ⟨w.heap.size, 0, none⟩ (.bool (ng Z))).setCell ⟨w.heap.size, 1, none⟩ (.slice p41 (ln (am Z)) (ln (am Z)))).setCell ⟨w.heap.size, 2, none⟩ (.slice q41 (ln V) (ln V)))).cell? ⟨w.heap.size, 2, none⟩ = some (.slice q41 (ln V) (ln V)) := eM.2.2
  have hP0_ := (((hP0.setCell ⟨w.heap.size, 0, none⟩ (.bool (ng Z))).setCell ⟨w.heap.size, 1, none⟩ (.slice p41 (ln (am Z)) (ln (am Z)))).setCell ⟨w.heap.size, 2, none⟩ (.slice q41 (ln V) (ln V)))
  have fzhP0 := fun o => hP0.frozen o
  have khp41 := (hp41.mid hB hM).seg
  clear hp41
  have khq41 := (hq41.mid hB hM).seg
  clear hq41
  have hBn := (hB.trans (hBW.mono hB.size)).trans (hM.below (Nat.le_trans hB.size hBW.size))
  have hsM := hM.size
  clear hM eM
  go_wp2_with fail
  clear q00 q01 q02 hP0 fzhP0 hB hBW
  generalize (((w41.setCell ⟨w.heap.size, 0, none⟩ (.bool (ng Z))).setCell ⟨w.heap.size, 1, none⟩ (.slice p41 (ln (am Z)) (ln (am Z)))).setCell ⟨w.heap.size, 2, none⟩ (.slice q41 (ln V) (ln V))) = w41y at q00_ q01_ q02_ hP0_ khp41 khq41 hBn hsM ⊢
  have q00 := q00_
  clear q00_
  have q01 := q01_
  clear q01_
  have q02 := q02_
  clear q02_
  have hP0 := hP0_
  clear hP0_
  have hB := hBn
  clear hBn
  have hBW : Below w41y.heap.size w41y w41y := Below.refl _ _
  refine (S1.out _ _ _ khp41 khq41).mono ?_
  rintro e w42 ⟨rfl, b42⟩
  replace hBW := hBW.trans (b42.mono hBW.size)
  replace q00 := below_cell b42 q00
  replace q01 := below_cell b42 q01
  replace q02 := below_cell b42 q02
  replace hP0 := below_row b42 hP0
  replace khp41 := khp41.later b42
  replace khq41 := khq41.later b42
  go_wp2_with fail
  have nb := single_new w42 1 37 1 (by omega) rfl
  refine (I1.out _ _ _ (khq41.later nb.below) nb.seg).mono ?_
  rintro e w43 ⟨rfl, b43⟩
  replace b43 := nb.below.trans (b43.mono nb.below.size)
  clear nb
  replace hBW := hBW.trans (b43.mono hBW.size)
  replace q00 := below_cell b43 q00
  replace q01 := below_cell b43 q01
  replace q02 := below_cell b43 q02
  replace hP0 := below_row b43 hP0
  replace khp41 := khp41.later b43
  replace khq41 := khq41.later b43
  go_wp2_with fail
  refine (X1.out _ _ khp41).mono ?_
  rintro e w44 ⟨rfl, b44⟩
  replace hBW := hBW.trans (b44.mono hBW.size)
  replace q00 := below_cell b44 q00
  replace q01 := below_cell b44 q01
  replace q02 := below_cell b44 q02
  replace hP0 := below_row b44 hP0
  replace khp41 := khp41.later b44
  replace khq41 := khq41.later b44
  go_wp2
  go_ret
  exact ⟨rfl, (hB.trans (hBW.mono hB.size))⟩

set_option maxHeartbeats 4000000 in
set_option maxRecDepth 100000 in
theorem vqScript_more (s0 : Bool) (a0 : Option Addr) (n0 c0 X0 : Nat) (b0 : Option Addr) (m0 d0 Y0 : Nat) (Z : Int) (V : Nat) (x d : ByteArray) (w : World) (hc0 : n0 ≤ c0) (hm0 : n0 ≤ 134217728) (hS0 : Seg w a0 X0 n0) (hd0 : m0 ≤ d0) (hk0 : m0 ≤ 134217728) (hT0 : Seg w b0 Y0 m0) (hL : Low (rn s0 X0 Y0) (rd Y0 : Nat) Z V) (hn : ng Z = false) (hx : isTx 10 (am Z) x) (hd : isTx 10 V d) (h1 : V ≠ 1) :
    Calls Tryz.prog 11 #[Value.agg #[Value.bool s0, Value.slice a0 n0 c0, Value.slice b0 m0 d0]] w fun e w' => e = .returned (.string (scr x d V)) ∧ Below w.heap.size w w' := by
  obtain ⟨lZ, lV⟩ := low_ln hS0.1 hT0.1 hL
  have zx := hx.size_le (by omega) (ln_lt (am Z))
  have zd := hd.size_le (by omega) (ln_lt V)
  have k1 : (⟨#[46, 48]⟩ : ByteArray).size = 2 := rfl
  have k2 : (⟨#[40, 47, 32]⟩ : ByteArray).size = 3 := rfl
  have k3 : (⟨#[46, 48, 32]⟩ : ByteArray).size = 3 := rfl
  have k4 : (⟨#[46, 48, 41]⟩ : ByteArray).size = 3 := rfl
  have k5 : (⟨#[40, 45, 32]⟩ : ByteArray).size = 3 := rfl
  have k6 : (⟨#[41]⟩ : ByteArray).size = 1 := rfl
  have y0 : ¬ (9223372036854775807 < x.size + 2) := by omega
  have z0 : x.size + 2 ≤ 9223372036854775807 := by omega
  have y1 : ¬ (9223372036854775807 < 3 + x.size) := by omega
  have z1 : 3 + x.size ≤ 9223372036854775807 := by omega
  have y2 : ¬ (9223372036854775807 < 3 + x.size + 3) := by omega
  have z2 : 3 + x.size + 3 ≤ 9223372036854775807 := by omega
  have y3 : ¬ (9223372036854775807 < 3 + x.size + 3 + d.size) := by omega
  have z3 : 3 + x.size + 3 + d.size ≤ 9223372036854775807 := by omega
  have y4 : ¬ (9223372036854775807 < 3 + x.size + 3 + d.size + 3) := by omega
  have z4 : 3 + x.size + 3 + d.size + 3 ≤ 9223372036854775807 := by omega
  have hs : scr x d V = ⟨#[40, 47, 32]⟩ ++ x ++ ⟨#[46, 48, 32]⟩ ++ d ++ ⟨#[46, 48, 41]⟩ := by unfold scr; rw [if_neg h1]
  rw [hs]
  have I1 := hide' (fun w' p a1 k g => rSame_one p a1 V w' (by omega) k g)
  have X1 := hide' (fun w' a (g : Seg w' a (am Z) (ln (am Z))) => vdigits_is a (ln (am Z)) (ln (am Z)) (am Z) x w' (by omega) g hx)
  have D1 := hide' (fun w' a (g : Seg w' a V (ln V)) => vdigits_is a (ln V) (ln V) V d w' (by omega) g hd)
  obtain ⟨C, hC, hC0⟩ : ∃ C : Int, sgn (rn (ng Z) (am Z) V) = C ∧ ¬ (C < 0) := ⟨_, rfl, by rw [rn_nf hL.pos]; unfold ng at hn; rw [decide_eq_false_iff_not] at hn; rcases Int.lt_or_le 0 Z with h | h; (rw [sgn_pos h]; decide); (rw [show Z = 0 by omega]; decide)⟩
  have S1 := hide' (fun w' p q k g => vqSign_is (ng Z) p (ln (am Z)) (ln (am Z)) (am Z) q (ln V) (ln V) V C w' (Nat.le_refl _) (by omega) k (Nat.le_refl _) (by omega) g hC)
  clear hC
  rw [decide_eq_false h1] at I1
  have G1 := hide' hL
  clear hL hx hd h1 zx zd hs hn
  go_enter Tryz.func11, Tryz.ntmps11
  go_wp2_with fail
  obtain ⟨W, hW⟩ : ∃ W, (w.alloc (.cells #[.bool s0, .slice a0 n0 c0, .slice b0 m0 d0] 27)) = W := ⟨_, rfl⟩
  have q00 : W.cell? ⟨w.heap.size, 0, none⟩ = some (.bool s0) := by subst hW; go_simp
  have q01 : W.cell? ⟨w.heap.size, 1, none⟩ = some (.slice a0 n0 c0) := by subst hW; go_simp
  have q02 : W.cell? ⟨w.heap.size, 2, none⟩ = some (.slice b0 m0 d0) := by subst hW; go_simp
  have hB : Below w.heap.size w W := by subst hW; exact ((Below.refl _ _).alloc (by (try simp only [World.size_alloc]); omega) _)
  have hP0 : Row W (w.heap.size) := by
    have := row_new (w) #[.bool s0, .slice a0 n0 c0, .slice b0 m0 d0] 27
    try simp only [World.size_alloc] at this
    subst hW; exact this
  have hz : W.heap.size = w.heap.size + 1 := by subst hW; simp only [World.size_alloc]
  rw [hW]
  clear hW
  have hBW : Below W.heap.size W W := Below.refl _ _
  refine (vqNorm_is s0 a0 n0 c0 X0 b0 m0 d0 Y0 V Z _ (by omega) (sb hS0 hB hBW) (by omega) (sb hT0 hB hBW) G1.out).mono ?_
  rintro e w41 ⟨p41, q41, rfl, hp41, hq41⟩
  have b41 := hp41.below
  replace hp41 := hp41.back hBW
  replace hq41 := hq41.back hBW
  replace hBW := hBW.trans (b41.mono hBW.size)
  replace q00 := below_cell b41 q00
  replace q01 := below_cell b41 q01
  replace q02 := below_cell b41 q02
  replace hP0 := below_row b41 hP0
  have hsB := hBW.size
  have hM : Mid w.heap.size W.heap.size w41 (((w41.setCell ⟨w.heap.size, 0, none⟩ (.bool (ng Z))).setCell ⟨w.heap.size, 1, none⟩ (.slice p41 (ln (am Z)) (ln (am Z)))).setCell ⟨w.heap.size, 2, none⟩ (.slice q41 (ln V) (ln V))) := ((((Mid.refl _ _ _).set _ _ (by omega) (by omega) _).set _ _ (by omega) (by omega) _).set _ _ (by omega) (by omega) _)
  have eM := set3_same (w := w41) (c := w.heap.size) (u0 := .bool (ng Z)) (u1 := .slice p41 (ln (am Z)) (ln (am Z))) (u2 := .slice q41 (ln V) (ln V)) q00 q01 q02
  have q00_ : ((((w41.setCell ⟨w.heap.size, 0, none⟩ (.bool (ng Z))).setCell ⟨w.heap.size, 1, none⟩ (.slice p41 (ln (am Z)) (ln (am Z)))).setCell ⟨w.heap.size, 2, none⟩ (.slice q41 (ln V) (ln V)))).cell? ⟨w.heap.size, 0, none⟩ = some (.bool (ng Z)) := eM.1
  have q01_ : ((((w41.setCell ⟨w.heap.size, 0, none⟩ (.bool (ng Z))).setCell ⟨w.heap.size, 1, none⟩ (.slice p41 (ln (am Z)) (ln (am Z)))).setCell ⟨w.heap.size, 2, none⟩ (.slice q41 (ln V) (ln V)))).cell? ⟨w.heap.size, 1, none⟩ = some (.slice p41 (ln (am Z)) (ln (am Z))) := eM.2.1
  have q02_ : ((((w41.setCell ⟨w.heap.size, 0, none⟩ (.bool (ng Z))).setCell ⟨w.heap.size, 1, none⟩ (.slice p41 (ln (am Z)) (ln (am Z)))).setCell ⟨w.heap.size, 2, none⟩ (.slice q41 (ln V) (ln V)))).cell? ⟨w.heap.size, 2, none⟩ = some (.slice q41 (ln V) (ln V)) := eM.2.2
  have hP0_ := (((hP0.setCell ⟨w.heap.size, 0, none⟩ (.bool (ng Z))).setCell ⟨w.heap.size, 1, none⟩ (.slice p41 (ln (am Z)) (ln (am Z)))).setCell ⟨w.heap.size, 2, none⟩ (.slice q41 (ln V) (ln V)))
  have fzhP0 := fun o => hP0.frozen o
  have khp41 := (hp41.mid hB hM).seg
  clear hp41
  have khq41 := (hq41.mid hB hM).seg
  clear hq41
  have hBn := (hB.trans (hBW.mono hB.size)).trans (hM.below (Nat.le_trans hB.size hBW.size))
  have hsM := hM.size
  clear hM eM
  go_wp2_with fail
  clear q00 q01 q02 hP0 fzhP0 hB hBW
  generalize (((w41.setCell ⟨w.heap.size, 0, none⟩ (.bool (ng Z))).setCell ⟨w.heap.size, 1, none⟩ (.slice p41 (ln (am Z)) (ln (am Z)))).setCell ⟨w.heap.size, 2, none⟩ (.slice q41 (ln V) (ln V))) = w41y at q00_ q01_ q02_ hP0_ khp41 khq41 hBn hsM ⊢
  have q00 := q00_
  clear q00_
  have q01 := q01_
  clear q01_
  have q02 := q02_
  clear q02_
  have hP0 := hP0_
  clear hP0_
  have hB := hBn
  clear hBn
  have hBW : Below w41y.heap.size w41y w41y := Below.refl _ _
  refine (S1.out _ _ _ khp41 khq41).mono ?_
  rintro e w42 ⟨rfl, b42⟩
  replace hBW := hBW.trans (b42.mono hBW.size)
  replace q00 := below_cell b42 q00
  replace q01 := below_cell b42 q01
  replace q02 := below_cell b42 q02
  replace hP0 := below_row b42 hP0
  replace khp41 := khp41.later b42
  replace khq41 := khq41.later b42
  go_wp2_with fail
  have nb := single_new w42 1 37 1 (by omega) rfl
  refine (I1.out _ _ _ (khq41.later nb.below) nb.seg).mono ?_
  rintro e w43 ⟨rfl, b43⟩
  replace b43 := nb.below.trans (b43.mono nb.below.size)
  clear nb
  replace hBW := hBW.trans (b43.mono hBW.size)
  replace q00 := below_cell b43 q00
  replace q01 := below_cell b43 q01
  replace q02 := below_cell b43 q02
  replace hP0 := below_row b43 hP0
  replace khp41 := khp41.later b43
  replace khq41 := khq41.later b43
  go_wp2_with fail
  replace hBW := hBW.drew
  replace khp41 := khp41.drew
  replace khq41 := khq41.drew
  first
    | go_region_held3 (fun w' => w'.cell? ⟨w.heap.size, 0, none⟩ = some (.bool (ng Z)) ∧ w'.cell? ⟨w.heap.size, 1, none⟩ = some (.slice p41 (ln (am Z)) (ln (am Z))) ∧ w'.cell? ⟨w.heap.size, 2, none⟩ = some (.slice q41 (ln V) (ln V)) ∧ Below w.heap.size w w')
        (first | exact ⟨q00, q01, q02, hB.trans (hBW.mono hB.size)⟩ | exact kp3 b44 (by assumption) | exact kp3 b45 (by assumption) | exact kp3 (below_alloc _) (by assumption))
        (first
          | (go_at_call 25; go_at_call_of 25 (Value.slice p41 (ln (am Z)) (ln (am Z))); refine (X1.out _ _ khp41).mono ?_; rintro e w44 ⟨rfl, b44⟩; replace hBW := hBW.trans (b44.mono hBW.size); replace q00 := below_cell b44 q00; replace q01 := below_cell b44 q01; replace q02 := below_cell b44 q02; replace hP0 := below_row b44 hP0; replace khp41 := khp41.later b44; replace khq41 := khq41.later b44)
          | (go_at_call 25; go_at_call_of 25 (Value.slice q41 (ln V) (ln V)); refine (D1.out _ _ khq41).mono ?_; rintro e w45 ⟨rfl, b45⟩; replace hBW := hBW.trans (b45.mono hBW.size); replace q00 := below_cell b45 q00; replace q01 := below_cell b45 q01; replace q02 := below_cell b45 q02; replace hP0 := below_row b45 hP0; replace khp41 := khp41.later b45; replace khq41 := khq41.later b45))
    | fail
  go_wp2
  go_ret
  exact ⟨rfl, (hB.trans (hBW.mono hB.size))⟩

set_option maxHeartbeats 4000000 in
set_option maxRecDepth 100000 in
theorem vqScript_pos (s0 : Bool) (a0 : Option Addr) (n0 c0 X0 : Nat) (b0 : Option Addr) (m0 d0 Y0 : Nat) (Z : Int) (V : Nat) (x d : ByteArray) (w : World) (hc0 : n0 ≤ c0) (hm0 : n0 ≤ 134217728) (hS0 : Seg w a0 X0 n0) (hd0 : m0 ≤ d0) (hk0 : m0 ≤ 134217728) (hT0 : Seg w b0 Y0 m0) (hL : Low (rn s0 X0 Y0) (rd Y0 : Nat) Z V) (hn : ng Z = false) (hx : isTx 10 (am Z) x) (hd : isTx 10 V d) :
    Calls Tryz.prog 11 #[Value.agg #[Value.bool s0, Value.slice a0 n0 c0, Value.slice b0 m0 d0]] w fun e w' => e = .returned (.string (scr x d V)) ∧ Below w.heap.size w w' := by
  by_cases h1 : V = 1
  · exact vqScript_one s0 a0 n0 c0 X0 b0 m0 d0 Y0 Z V x d w hc0 hm0 hS0 hd0 hk0 hT0 hL hn hx hd h1
  · exact vqScript_more s0 a0 n0 c0 X0 b0 m0 d0 Y0 Z V x d w hc0 hm0 hS0 hd0 hk0 hT0 hL hn hx hd h1

set_option maxHeartbeats 4000000 in
set_option maxRecDepth 100000 in
theorem vqScript_neg (s0 : Bool) (a0 : Option Addr) (n0 c0 X0 : Nat) (b0 : Option Addr) (m0 d0 Y0 : Nat) (Z : Int) (V : Nat) (x d : ByteArray) (w : World) (hc0 : n0 ≤ c0) (hm0 : n0 ≤ 67108864) (hS0 : Seg w a0 X0 n0) (hd0 : m0 ≤ d0) (hk0 : m0 ≤ 67108864) (hT0 : Seg w b0 Y0 m0) (hL : Low (rn s0 X0 Y0) (rd Y0 : Nat) Z V) (hn : ng Z = true) (hx : isTx 10 (am Z) x) (hd : isTx 10 V d) :
    Calls Tryz.prog 11 #[Value.agg #[Value.bool s0, Value.slice a0 n0 c0, Value.slice b0 m0 d0]] w fun e w' => e = .returned (.string (⟨#[40, 45, 32]⟩ ++ scr x d V ++ ⟨#[41]⟩)) ∧ Below w.heap.size w w' := by
  obtain ⟨lZ, lV⟩ := low_ln hS0.1 hT0.1 hL
  have zx := hx.size_le (by omega) (ln_lt (am Z))
  have zd := hd.size_le (by omega) (ln_lt V)
  have zs := scr_size x d V
  obtain ⟨N, hN⟩ : ∃ N, -Z = N := ⟨_, rfl⟩
  have aN : am N = am Z := by rw [← hN, am_neg]
  have nN : ng N = false := by rw [← hN]; exact ng_neg hn
  have lN : ln (am N) ≤ 67108865 := by rw [aN]; omega
  rw [← aN] at hx
  have hL2 : Low N (V : Int) N V := by rw [← hN]; exact (Low.self hL.pos hL.cop).neg
  have hL3 := hL2.nf hL.pos
  have hL4 : Low (-(rn (ng Z) (am Z) V)) ((rd V : Nat) : Int) N V := by rw [rn_nf hL.pos, rd_nf hL.pos, hN]; exact hL2
  have S2' := fun w' p q k g => vqScript_pos (ng N) p (ln (am N)) (ln (am N)) (am N) q (ln V) (ln V) V N V x d w' (Nat.le_refl _) (by omega) k (Nat.le_refl _) (by omega) g hL3 nN hx hd
  obtain ⟨sc, hsc⟩ : ∃ sc, scr x d V = sc := ⟨_, rfl⟩
  rw [hsc] at S2' zs ⊢
  have S2 := hide' S2'
  have k1 : (⟨#[46, 48]⟩ : ByteArray).size = 2 := rfl
  have k2 : (⟨#[40, 47, 32]⟩ : ByteArray).size = 3 := rfl
  have k3 : (⟨#[46, 48, 32]⟩ : ByteArray).size = 3 := rfl
  have k4 : (⟨#[46, 48, 41]⟩ : ByteArray).size = 3 := rfl
  have k5 : (⟨#[40, 45, 32]⟩ : ByteArray).size = 3 := rfl
  have k6 : (⟨#[41]⟩ : ByteArray).size = 1 := rfl
  have y0 : ¬ (9223372036854775807 < 3 + sc.size) := by omega
  have z0 : 3 + sc.size ≤ 9223372036854775807 := by omega
  have y1 : ¬ (9223372036854775807 < 3 + sc.size + 1) := by omega
  have z1 : 3 + sc.size + 1 ≤ 9223372036854775807 := by omega
  obtain ⟨C, hC, hC0⟩ : ∃ C : Int, sgn (rn (ng Z) (am Z) V) = C ∧ C < 0 := ⟨_, rfl, by rw [rn_nf hL.pos]; unfold ng at hn; rw [decide_eq_true_eq] at hn; rw [sgn_neg hn]; decide⟩
  have S1 := hide' (fun w' p q k g => vqSign_is (ng Z) p (ln (am Z)) (ln (am Z)) (am Z) q (ln V) (ln V) V C w' (Nat.le_refl _) (by omega) k (Nat.le_refl _) (by omega) g hC)
  clear hC
  have G1 := hide' hL
  have G4 := hide' hL4
  clear S2' hL hL2 hL3 hL4 hx hd hN aN nN zx zd zs hsc hn
  go_enter Tryz.func11, Tryz.ntmps11
  go_wp2_with fail
  obtain ⟨W, hW⟩ : ∃ W, (w.alloc (.cells #[.bool s0, .slice a0 n0 c0, .slice b0 m0 d0] 27)) = W := ⟨_, rfl⟩
  have q00 : W.cell? ⟨w.heap.size, 0, none⟩ = some (.bool s0) := by subst hW; go_simp
  have q01 : W.cell? ⟨w.heap.size, 1, none⟩ = some (.slice a0 n0 c0) := by subst hW; go_simp
  have q02 : W.cell? ⟨w.heap.size, 2, none⟩ = some (.slice b0 m0 d0) := by subst hW; go_simp
  have hB : Below w.heap.size w W := by subst hW; exact ((Below.refl _ _).alloc (by (try simp only [World.size_alloc]); omega) _)
  have hP0 : Row W (w.heap.size) := by
    have := row_new (w) #[.bool s0, .slice a0 n0 c0, .slice b0 m0 d0] 27
    try simp only [World.size_alloc] at this
    subst hW; exact this
  have hz : W.heap.size = w.heap.size + 1 := by subst hW; simp only [World.size_alloc]
  rw [hW]
  clear hW
  have hBW : Below W.heap.size W W := Below.refl _ _
  refine (vqNorm_is s0 a0 n0 c0 X0 b0 m0 d0 Y0 V Z _ (by omega) (sb hS0 hB hBW) (by omega) (sb hT0 hB hBW) G1.out).mono ?_
  rintro e w41 ⟨p41, q41, rfl, hp41, hq41⟩
  have b41 := hp41.below
  replace hp41 := hp41.back hBW
  replace hq41 := hq41.back hBW
  replace hBW := hBW.trans (b41.mono hBW.size)
  replace q00 := below_cell b41 q00
  replace q01 := below_cell b41 q01
  replace q02 := below_cell b41 q02
  replace hP0 := below_row b41 hP0
  have hsB := hBW.size
  have hM : Mid w.heap.size W.heap.size w41 (((w41.setCell ⟨w.heap.size, 0, none⟩ (.bool (ng Z))).setCell ⟨w.heap.size, 1, none⟩ (.slice p41 (ln (am Z)) (ln (am Z)))).setCell ⟨w.heap.size, 2, none⟩ (.slice q41 (ln V) (ln V))) := ((((Mid.refl _ _ _).set _ _ (by omega) (by omega) _).set _ _ (by omega) (by omega) _).set _ _ (by omega) (by omega) _)
  have eM := set3_same (w := w41) (c := w.heap.size) (u0 := .bool (ng Z)) (u1 := .slice p41 (ln (am Z)) (ln (am Z))) (u2 := .slice q41 (ln V) (ln V)) q00 q01 q02
  have q00_ : ((((w41.setCell ⟨w.heap.size, 0, none⟩ (.bool (ng Z))).setCell ⟨w.heap.size, 1, none⟩ (.slice p41 (ln (am Z)) (ln (am Z)))).setCell ⟨w.heap.size, 2, none⟩ (.slice q41 (ln V) (ln V)))).cell? ⟨w.heap.size, 0, none⟩ = some (.bool (ng Z)) := eM.1
  have q01_ : ((((w41.setCell ⟨w.heap.size, 0, none⟩ (.bool (ng Z))).setCell ⟨w.heap.size, 1, none⟩ (.slice p41 (ln (am Z)) (ln (am Z)))).setCell ⟨w.heap.size, 2, none⟩ (.slice q41 (ln V) (ln V)))).cell? ⟨w.heap.size, 1, none⟩ = some (.slice p41 (ln (am Z)) (ln (am Z))) := eM.2.1
  have q02_ : ((((w41.setCell ⟨w.heap.size, 0, none⟩ (.bool (ng Z))).setCell ⟨w.heap.size, 1, none⟩ (.slice p41 (ln (am Z)) (ln (am Z)))).setCell ⟨w.heap.size, 2, none⟩ (.slice q41 (ln V) (ln V)))).cell? ⟨w.heap.size, 2, none⟩ = some (.slice q41 (ln V) (ln V)) := eM.2.2
  have hP0_ := (((hP0.setCell ⟨w.heap.size, 0, none⟩ (.bool (ng Z))).setCell ⟨w.heap.size, 1, none⟩ (.slice p41 (ln (am Z)) (ln (am Z)))).setCell ⟨w.heap.size, 2, none⟩ (.slice q41 (ln V) (ln V)))
  have fzhP0 := fun o => hP0.frozen o
  have khp41 := (hp41.mid hB hM).seg
  clear hp41
  have khq41 := (hq41.mid hB hM).seg
  clear hq41
  have hBn := (hB.trans (hBW.mono hB.size)).trans (hM.below (Nat.le_trans hB.size hBW.size))
  have hsM := hM.size
  clear hM eM
  go_wp2_with fail
  clear q00 q01 q02 hP0 fzhP0 hB hBW
  generalize (((w41.setCell ⟨w.heap.size, 0, none⟩ (.bool (ng Z))).setCell ⟨w.heap.size, 1, none⟩ (.slice p41 (ln (am Z)) (ln (am Z)))).setCell ⟨w.heap.size, 2, none⟩ (.slice q41 (ln V) (ln V))) = w41y at q00_ q01_ q02_ hP0_ khp41 khq41 hBn hsM ⊢
  have q00 := q00_
  clear q00_
  have q01 := q01_
  clear q01_
  have q02 := q02_
  clear q02_
  have hP0 := hP0_
  clear hP0_
  have hB := hBn
  clear hBn
  have hBW : Below w41y.heap.size w41y w41y := Below.refl _ _
  refine (S1.out _ _ _ khp41 khq41).mono ?_
  rintro e w42 ⟨rfl, b42⟩
  replace hBW := hBW.trans (b42.mono hBW.size)
  replace q00 := below_cell b42 q00
  replace q01 := below_cell b42 q01
  replace q02 := below_cell b42 q02
  replace hP0 := below_row b42 hP0
  replace khp41 := khp41.later b42
  replace khq41 := khq41.later b42
  go_wp2_with fail
  refine (vqNeg_is (ng Z) p41 (ln (am Z)) (ln (am Z)) (am Z) q41 (ln V) (ln V) V N V _ (Nat.le_refl _) (by omega) khp41 (Nat.le_refl _) (by omega) khq41 G4.out).mono ?_
  rintro e w43 ⟨p43, q43, rfl, hp43, hq43⟩
  have b43 := hp43.below
  replace hp43 := hp43.back hBW
  replace hq43 := hq43.back hBW
  replace hBW := hBW.trans (b43.mono hBW.size)
  replace q00 := below_cell b43 q00
  replace q01 := below_cell b43 q01
  replace q02 := below_cell b43 q02
  replace hP0 := below_row b43 hP0
  replace khp41 := khp41.later b43
  replace khq41 := khq41.later b43
  go_wp2_with fail
  refine (S2.out _ _ _ hp43.seg hq43.seg).mono ?_
  rintro e w44 ⟨rfl, b44⟩
  replace hBW := hBW.trans (b44.mono hBW.size)
  replace q00 := below_cell b44 q00
  replace q01 := below_cell b44 q01
  replace q02 := below_cell b44 q02
  replace hP0 := below_row b44 hP0
  replace khp41 := khp41.later b44
  replace khq41 := khq41.later b44
  replace hp43 := hp43.later b44
  replace hq43 := hq43.later b44
  go_wp2
  go_ret
  exact ⟨rfl, (hB.trans (hBW.mono hB.size))⟩

end Go.Proofs.YtgbpjbgcnbkepaaGreatDoor
