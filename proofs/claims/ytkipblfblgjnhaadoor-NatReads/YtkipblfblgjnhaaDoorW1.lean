/-
  The walks over layer 1's small functions: trim, word, order, Norm, Of, Small, Cmp, addInto, subFrom, Add, Sub.
-/
import Derived.Test.YtkipblfblgjnhaaDoorMem
namespace Go.Proofs.YtkipblfblgjnhaaDoor
open Go.RowKit
set_option linter.unusedVariables false

/-- what trim hands back: nil, or where it was -/
def Trm (ao ao' : Option Addr) (m : Nat) : Prop := (m = 0 → ao' = none) ∧ (0 < m → ao' = ao)
theorem Seg.trm {w : World} {ao ao' : Option Addr} {X n : Nat} (h : Seg w ao X n) (t : Trm ao ao' (ln X)) : Seg w ao' X (ln X) := by
  refine ⟨ln_lt X, fun h0 => ?_⟩
  have hl := ln_le_of_lt h.1
  obtain ⟨b, off, e, hlt, hc⟩ := h.2 (by omega)
  exact ⟨b, off, by rw [t.2 h0]; exact e, hlt, fun i hi => hc i (by omega)⟩
theorem New.trm {w w' : World} {ao ao' : Option Addr} {X n : Nat} (h : New w w' ao X n) (t : Trm ao ao' (ln X)) : New w w' ao' X (ln X) := by
  refine ⟨h.seg.trm t, h.below, fun h0 => ?_⟩
  have hl := ln_le_of_lt h.seg.1
  obtain ⟨b, off, e, r⟩ := h.fresh (by omega)
  exact ⟨b, off, by rw [t.2 h0]; exact e, r⟩
theorem Trm.ne {ao ao' : Option Addr} {m b : Nat} (t : Trm ao ao' m) (h : ∀ o, ao ≠ some ⟨b, o, none⟩) : ∀ o, ao' ≠ some ⟨b, o, none⟩ := by
  intro o e
  by_cases h0 : m = 0
  · rw [t.1 h0] at e; simp at e
  · rw [t.2 (by omega)] at e; exact h o e

theorem Trm.ne_new {w : World} {ao ao' : Option Addr} {X n b : Nat} (t : Trm ao ao' (ln X)) (h : Seg w ao X n) (hb : w.heap.size ≤ b) : ∀ o, ao' ≠ some ⟨b, o, none⟩ := by
  intro o e
  by_cases h0 : ln X = 0
  · rw [t.1 h0] at e; simp at e
  · obtain ⟨b', off', e', hlt, _⟩ := (h.trm t).2 (by omega)
    rw [e'] at e
    simp only [Option.some.injEq, Addr.mk.injEq] at e
    omega
/-- a slice with limbs lies in old memory -/
theorem Seg.ne_new {w : World} {ao : Option Addr} {X n b : Nat} (h : Seg w ao X n) (hn : 0 < n) (hb : w.heap.size ≤ b) : ∀ o, ao ≠ some ⟨b, o, none⟩ := by
  intro o e
  obtain ⟨b', off', e', hlt, _⟩ := h.2 hn
  rw [e'] at e
  simp only [Option.some.injEq, Addr.mk.injEq] at e
  omega

theorem beq_zero_of {a : Nat} (h : ((a : Nat) : Int) == 0) : a = 0 := by simpa using h
theorem beq_zero_ne {a : Nat} (h : (((a : Nat) : Int) == 0) = false) : a ≠ 0 := by simpa using h
theorem ret_slice {ao ao' : Option Addr} {n n' c c' : Nat} (h1 : ao = ao') (h2 : n = n') (h3 : c = c') : Ending.returned (.slice ao n c) = .returned (.slice ao' n' c') := by rw [h1, h2, h3]
theorem ret_int {k : IntKind} {a b : Int} (h : a = b) : Ending.returned (.int k a) = .returned (.int k b) := by rw [h]

set_option maxHeartbeats 400000 in
theorem trim_any (ao : Option Addr) (n cap X : Nat) (w : World) (hc : n ≤ cap) (hm : n ≤ 70368744177664) (hS : Seg w ao X n) :
    Calls Tryd.prog 23 #[.slice ao n cap] w fun e w' => ∃ ao', e = .returned (.slice ao' (ln X) (ln X)) ∧ w = w' ∧ Trm ao ao' (ln X) := by
  go_enter Tryd.func23, Tryd.ntmps23
  go_wp2
  go_loop [3] (fun t => ∃ k : Nat, k ≤ n ∧ t = .int .i64 k ∧ X < BB ^ k) (fun t => (intOf t).toNat)
  case atStart => exact ⟨n, Nat.le_refl _, rfl, hS.1⟩
  case round =>
    obtain ⟨k, hk, rfl, ht⟩ := hrel
    have HT : Hid (X < BB ^ k) := ht
    clear ht
    by_cases hlt : 0 < k
    · obtain ⟨b, off, rfl, hb, hcell⟩ := hS.2 (by omega)
      go_wp2
      · have h0 : (((dg X (k - 1) : Nat) : Int) == 0) = true := by assumption
        go_round
        case rel => exact ⟨k - 1, by omega, by go_num, lt_of_dg_zero (by rw [Nat.sub_add_cancel hlt]; exact HT.out) (beq_zero_of h0)⟩
        case measure => simp [intOf]; omega
      · have h0 : (((dg X (k - 1) : Nat) : Int) == 0) = false := by assumption
        have e := ln_of_top HT.out (beq_zero_ne h0)
        go_ret
        exact ⟨some ⟨b, off, none⟩, ret_slice rfl (by simp [e]) (by simp [e]), rfl, fun h => by omega, fun _ => rfl⟩
    · go_wp2
      have hk0 : k = 0 := by omega
      subst hk0
      have hX : X = 0 := by have := HT.out; simpa using this
      go_ret
      exact ⟨none, ret_slice rfl (by rw [hX, ln_zero]) (by rw [hX, ln_zero]), rfl, fun _ => rfl, fun h => by rw [hX, ln_zero] at h; omega⟩

theorem quiet_drewN {P : Program} {f : Nat} {args : Array Value} {v : Value} {w : World} {nq a : Nat} (h : Calls P f args (w.drewN (nq + a)) fun e w' => e = .returned v ∧ w' = w.drewN (nq + a)) :
    Calls P f args (w.drewN (nq + a)) fun e w'' => e = .returned v ∧ ∃ n, w'' = w.drewN (nq + n) := h.mono fun _ _ ⟨h1, h2⟩ => ⟨h1, a, h2⟩



theorem pair_new (w : World) (X : Nat) (t : TypeId) (a b : Int) (hX : X < 18446744073709551616) (ha : a = (dg X 0 : Nat)) (hb : b = (dg X 1 : Nat)) :
    New w (w.alloc (.cells #[.int .u32 a, .int .u32 b] t)) (some ⟨w.heap.size, 0, none⟩) X 2 := by
  have hh : (w.alloc (.cells #[.int .u32 a, .int .u32 b] t)).heap[w.heap.size]? = some (.cells #[.int .u32 a, .int .u32 b] t) := by
    show (w.heap.push _)[w.heap.size]? = _
    rw [Array.getElem?_push, if_pos rfl]
  have hr : Row (w.alloc (.cells #[.int .u32 a, .int .u32 b] t)) w.heap.size := ⟨_, t, hh⟩
  refine ⟨Seg.mk' (by rw [BB2]; exact hX) hr.lt fun i hi => ?_, (Below.refl _ _).alloc (Nat.le_refl _) _, fun _ => ⟨_, _, rfl, Nat.le_refl _, hr⟩⟩
  simp only [World.cell?, hh, Option.isSome_none, Bool.false_eq_true, if_false, Nat.zero_add]
  rcases (show i = 0 ∨ i = 1 by omega) with rfl | rfl
  · rw [ha]; rfl
  · rw [hb]; rfl
theorem single_new (w : World) (X : Nat) (t : TypeId) (a : Int) (hX : X < 4294967296) (ha : a = (X : Nat)) :
    New w (w.alloc (.cells #[.int .u32 a] t)) (some ⟨w.heap.size, 0, none⟩) X 1 := by
  have hh : (w.alloc (.cells #[.int .u32 a] t)).heap[w.heap.size]? = some (.cells #[.int .u32 a] t) := by
    show (w.heap.push _)[w.heap.size]? = _
    rw [Array.getElem?_push, if_pos rfl]
  have hr : Row (w.alloc (.cells #[.int .u32 a] t)) w.heap.size := ⟨_, t, hh⟩
  refine ⟨Seg.mk' (by rw [Nat.pow_one, BB_eq]; exact hX) hr.lt fun i hi => ?_, (Below.refl _ _).alloc (Nat.le_refl _) _, fun _ => ⟨_, _, rfl, Nat.le_refl _, hr⟩⟩
  simp only [World.cell?, hh, Option.isSome_none, Bool.false_eq_true, if_false, Nat.zero_add]
  rcases (show i = 0 by omega) with rfl
  rw [ha, dg0, Nat.mod_eq_of_lt hX]; rfl

set_option maxHeartbeats 400000 in
theorem Of_any (n : Nat) (w : World) (hn : n < 18446744073709551616) :
    Calls Tryd.prog 17 #[.int .u64 n] w fun e w' => ∃ ao, e = .returned (.slice ao (ln n) (ln n)) ∧ New w w' ao n (ln n) := by
  have hN := pair_new w n 28 (n % 4294967296) (n / 4294967296) hn (by rw [dg0]; simp) (by rw [dg1]; omega)
  go_enter Tryd.func17, Tryd.ntmps17
  go_wp2_with (go_at_call 23; refine (trim_any _ 2 2 n _ (by omega) (by omega) hN.seg).mono ?_; rintro e w' ⟨a1, rfl, rfl, ht⟩)
  go_ret
  exact ⟨_, rfl, hN.trm ht⟩

def smV (X : Nat) : Nat := if X < 18446744073709551616 then X else 0
def smB (X : Nat) : Bool := decide (X < 18446744073709551616)
theorem smV_of {X : Nat} (h : X < 18446744073709551616) : smV X = X := by simp [smV, h]
theorem smB_of {X : Nat} (h : X < 18446744073709551616) : smB X = true := by simp [smB, h]
theorem smV_no {X : Nat} (h : ¬ X < 18446744073709551616) : smV X = 0 := by simp [smV, h]
theorem smB_no {X : Nat} (h : ¬ X < 18446744073709551616) : smB X = false := by simp [smB, h]

end Go.Proofs.YtkipblfblgjnhaaDoor
