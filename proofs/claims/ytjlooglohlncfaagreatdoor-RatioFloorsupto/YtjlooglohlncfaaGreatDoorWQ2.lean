/-
  Layer 3: lowest, opposite, order, Cmp, Neg, Abs.
-/
import Derived.Test.YtjlooglohlncfaaGreatDoorWQ1
namespace Go.Proofs.YtjlooglohlncfaaGreatDoor
open Go.RowKit
set_option linter.unusedVariables false

theorem lowest_is (s : Bool) (ao : Option Addr) (n cap X : Nat) (ao2 : Option Addr) (m cap2 Y V : Nat) (Z : Int) (w : World) (hc : n ≤ cap) (hm : n ≤ 70368744177660) (hS : Seg w ao X n) (hc2 : m ≤ cap2) (hm2 : m ≤ 70368744177660) (hS2 : Seg w ao2 Y m) (hL : Low (sg s X) (Y : Int) Z V) :
    Calls Tryz.prog 24 #[.agg #[.bool s, .slice ao n cap, .bool false, .slice ao2 m cap2]] w fun e w' => ∃ p q, e = .returned (.agg #[.bool (ng Z), .slice p (ln (am Z)) (ln (am Z)), .slice q (ln V) (ln V)]) ∧ New w w' p (am Z) (ln (am Z)) ∧ New w w' q V (ln V) := by
  have hY : Y ≠ 0 := by have := hL.ne; omega
  obtain ⟨P, Q, hP, hQ⟩ := gcd_parts X Y
  have h := low_made s false hY rfl hP hQ
  simp only [Bool.false_eq_true, if_false] at h
  obtain ⟨rfl, rfl⟩ := hL.uniq h rfl
  exact lowest_pos s ao n cap X ao2 m cap2 Y P V _ w hc hm hS hc2 hm2 hS2 hY hP hQ rfl

set_option maxHeartbeats 1000000 in
theorem opposite_is (s : Bool) (ao : Option Addr) (n cap : Nat) (t : Bool) (ao2 : Option Addr) (m cap2 : Nat) (w : World) :
    Calls Tryz.prog 41 #[.agg #[.bool s, .slice ao n cap, .bool t, .slice ao2 m cap2]] w fun e w' => e = .returned (.agg #[.bool (!s), .slice ao n cap, .bool t, .slice ao2 m cap2]) ∧ Below w.heap.size w w' := by
  go_enter Tryz.func41, Tryz.ntmps41
  have hB : Below w.heap.size w ((w.alloc (.cells #[.bool (!s), .slice ao n cap, .bool t, .slice ao2 m cap2] 43)).alloc (.cells #[.bool (!s), .slice ao n cap, .bool t, .slice ao2 m cap2] 43)) := ((Below.refl _ _).alloc (Nat.le_refl _) _).alloc (by rw [World.size_alloc]; omega) _
  go_wp2
  refine bodyPost_ret (v := .agg #[.bool (!s), .slice ao n cap, .bool t, .slice ao2 m cap2]) (by rw [results_cell rfl]; go_simp) rfl ?_
  exact ⟨rfl, hB⟩




end Go.Proofs.YtjlooglohlncfaaGreatDoor
