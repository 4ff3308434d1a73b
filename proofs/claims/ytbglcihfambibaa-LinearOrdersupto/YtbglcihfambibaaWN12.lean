/-
  Layer 6: the law's unit and awake.
-/
import Derived.Test.YtbglcihfambibaaWN11
import Derived.Test.YtbglcihfambibaaWQ9
import Derived.Test.YtbglcihfambibaaWQE
namespace Go.Proofs.Ytbglcihfambibaa
open Go.RowKit
set_option linter.unusedVariables false
set_option linter.unusedSimpArgs false

theorem nfm_two (x : Int) : nfm ([(x, 1)] ++ [(x, 1)]) = [(x, 2)] := by
  refine (nfm_uniq ?_ fun y => ?_).symm
  · exact nrm.nil.cons (fun q hq => absurd hq (by simp)) (by show (2 : Rat) ≠ 0; decide)
  · simp only [List.cons_append, List.nil_append, co]
    split <;> grind

set_option maxHeartbeats 2000000 in
set_option maxRecDepth 100000 in
theorem unit_is (x : Int) (w : World) : Calls Try.prog 8 #[.int .i64 x] w (FAns w [(x, 1)]) := by
  have G : ∀ w', Calls Try.prog 16 #[.int .i64 1] w' fun e w'' => ∃ p q, e = .returned (.agg #[.bool (ng (1 : Rat).num), .slice p (ln (am (1 : Rat).num)) (ln (am (1 : Rat).num)), .slice q (ln (1 : Rat).den) (ln (1 : Rat).den)]) ∧ New w' w'' p (am (1 : Rat).num) (ln (am (1 : Rat).num)) ∧ New w' w'' q (1 : Rat).den (ln (1 : Rat).den) := fun w' => vqWhole_is 1 w' (by omega) (by omega)
  have l1 : ln (am (1 : Rat).num) ≤ 35184372087808 := by show ln (am 1) ≤ _; rw [show am 1 = 1 from rfl, ln_one]; omega
  have l2 : ln (1 : Rat).den ≤ 35184372087808 := by show ln 1 ≤ _; rw [ln_one]; omega
  obtain ⟨r, hr⟩ : ∃ r : Rat, (1 : Rat) = r := ⟨_, rfl⟩
  rw [hr] at G l1 l2 ⊢
  clear hr
  replace G := hide' G
  go_enter Try.func8, Try.ntmps8
  go_wp2_with fail
  refine (G.out _).mono ?_
  rintro e w1 ⟨p, q, rfl, n1, n2⟩
  go_wp2_with fail
  have f4 := four_new w1 (.int .i64 x) (.bool (ng r.num)) (.slice p (ln (am r.num)) (ln (am r.num))) (.slice q (ln r.den) (ln r.den)) 38
  have b4 := below_alloc (w := w1) (.cells #[.int .i64 x, .bool (ng r.num), .slice p (ln (am r.num)) (ln (am r.num)), .slice q (ln r.den) (ln r.den)] 38)
  have bT := n1.below.trans (b4.mono n1.below.size)
  have I1 : FAns w [(x, r)] (.returned (.slice (some ⟨w1.heap.size, 0, none⟩) 1 1)) (w1.alloc (.cells #[.int .i64 x, .bool (ng r.num), .slice p (ln (am r.num)) (ln (am r.num)), .slice q (ln r.den) (ln r.den)] 38)) := by
    refine ⟨_, 1, [(x, RatV.of r.num r.den p q)], rfl, bT, ⟨fun _ => ⟨w1.heap.size, 0, rfl, by simp only [World.size_alloc]; omega, fun i y hi => ?_⟩, Nat.le_refl _, fun h => by cases h⟩, fun y hy => ?_, ?_⟩
    · match i, hi with
      | 0, hi => obtain rfl := Option.some.inj hi; exact ⟨f4.1.1, f4.1.2.1, f4.1.2.2.1, f4.1.2.2.2⟩
    · rw [List.mem_singleton] at hy; subst hy; exact ⟨⟨n1.seg.later b4, Nat.le_refl _, l1, n2.seg.later b4, Nat.le_refl _, l2⟩, ofR_low r p q⟩
    · show [(x, (RatV.of r.num r.den p q).val)] = _; rw [val_ofR]
  replace I1 := hide' I1
  clear f4 b4 bT n1 n2
  go_wp2
  go_ret
  exact I1.out
end Go.Proofs.Ytbglcihfambibaa
