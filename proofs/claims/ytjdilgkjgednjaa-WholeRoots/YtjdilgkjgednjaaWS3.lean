/-
  Layer 2: the reference's Shift.
-/
import Derived.Test.YtjdilgkjgednjaaWS2
import Derived.Test.YtjdilgkjgednjaaWIC
import Derived.Test.YtjdilgkjgednjaaWIA
import Derived.Test.YtjdilgkjgednjaaW14
import Derived.Deep.CutRange
namespace Go.Proofs.Ytjdilgkjgednjaa
open Go.RowKit
set_option linter.unusedVariables false

theorem Seg.later {w1 w' : World} {a : Option Addr} {Z n : Nat} (h : Seg w1 a Z n) (hb : Below w1.heap.size w1 w') : Seg w' a Z n := h.below hb (Nat.le_refl _)
theorem bsetW {W w' : World} {c o : Nat} {u : Value} (h : Below W.heap.size W w') (hc : W.heap.size ≤ c) : Below W.heap.size W (w'.setCell ⟨c, o, none⟩ u) := h.setCell hc _
theorem consT {P : Program} {ops : Array Oper} {Q : Exit → Act → World → Prop} {md : Region.Mode} {S : World → Prop} {n : Nat} {L : Array Bool} {a : Act} {w : World} {i : Nat} {rs : List Nat} {d : Option Tmp} {op : Op} {ty : TypeId} {pos : String} {af : Array Edge} {g : Option (Nat × Bool)}
    (ho : ops[i]? = some ⟨d, op, ty, pos, af, g⟩) (h : ∀ K' : Act → World → Prop, Shut (∀ a w, S w → (S w → wpAnyH P md ops Q S n (L.setIfInBounds i true) a w) → K' a w) → if Region.wanted ⟨d, op, ty, pos, af, g⟩ (yielded ops a.tmps) = true then Oper.wp P ⟨d, op, ty, pos, af, g⟩ a w K' Q else K' (a.put d undef) w)
    (h2 : AllReadyH P md ops Q S n L a w rs) : AllReadyH P md ops Q S n L a w (i :: rs) := AllReadyH.cons ho h h2
theorem Seg.setB {w : World} {p : Option Addr} {X n c o : Nat} {u z : Value} (h : Seg w p X n) (hc : w.cell? ⟨c, o, none⟩ = some z) (hz : ∀ k i, z ≠ .int k i) : Seg (w.setCell ⟨c, o, none⟩ u) p X n := by
  refine ⟨h.1, fun hn => ?_⟩
  obtain ⟨b, off, rfl, hb, hcell⟩ := h.2 hn
  refine ⟨b, off, rfl, by simpa [World.setCell] using hb, fun i hi => ?_⟩
  have h1 := hcell i hi
  rw [World.cell?_setCell_other _ _ _ _ (fun e => ?_)]
  · exact h1
  · rw [← e, hc] at h1
    simp only [Option.some.injEq] at h1
    exact hz _ _ h1
theorem Seg.setTwo {w : World} {p : Option Addr} {X n c : Nat} {u0 u1 : Value} {z0 : Bool} {a1 : Option Addr} {n1 k1 : Nat} (h : Seg w p X n) (h0 : w.cell? ⟨c, 0, none⟩ = some (.bool z0)) (h1 : w.cell? ⟨c, 1, none⟩ = some (.slice a1 n1 k1)) :
    Seg ((w.setCell ⟨c, 0, none⟩ u0).setCell ⟨c, 1, none⟩ u1) p X n := by
  refine (h.setB h0 (by simp)).setB (z := .slice a1 n1 k1) ?_ (by simp)
  rw [World.cell?_setCell_other _ _ _ _ (fun e => by simp at e)]; exact h1

theorem New.set2 {L w : World} {p : Option Addr} {X n c : Nat} {u0 u1 : Value} {z0 : Bool} {a1 : Option Addr} {n1 k1 : Nat} (h : New L w p X n) (ge : L.heap.size ≤ c) (h0 : w.cell? ⟨c, 0, none⟩ = some (.bool z0)) (h1 : w.cell? ⟨c, 1, none⟩ = some (.slice a1 n1 k1)) :
    New L ((w.setCell ⟨c, 0, none⟩ u0).setCell ⟨c, 1, none⟩ u1) p X n :=
  ⟨h.seg.setTwo h0 h1, bsetW (bsetW h.below ge) ge, fun hn => by obtain ⟨b, off, e, hb, hr⟩ := h.fresh hn; exact ⟨b, off, e, hb, (hr.setCell _ _).setCell _ _⟩⟩
theorem stored2 {w W : World} {c d r : Nat} {u0 u1 v0 v1 : Value} {z0 : Bool} {a1 : Option Addr} {n1 k1 : Nat} {p1 : Option Addr} {X1 l1 : Nat}
    (h0 : w.cell? ⟨c, 0, none⟩ = some (.bool z0)) (h1 : w.cell? ⟨c, 1, none⟩ = some (.slice a1 n1 k1)) (g0 : w.cell? ⟨d, 0, none⟩ = some v0) (g1 : w.cell? ⟨d, 1, none⟩ = some v1) (gR : Row w r)
    (hBW : Below W.heap.size W w) (ge : W.heap.size ≤ c) (ne : c ≠ d) (s1 : New W w p1 X1 l1) :
    ((w.setCell ⟨c, 0, none⟩ u0).setCell ⟨c, 1, none⟩ u1).cell? ⟨c, 0, none⟩ = some u0 ∧ ((w.setCell ⟨c, 0, none⟩ u0).setCell ⟨c, 1, none⟩ u1).cell? ⟨c, 1, none⟩ = some u1 ∧
    ((w.setCell ⟨c, 0, none⟩ u0).setCell ⟨c, 1, none⟩ u1).cell? ⟨d, 0, none⟩ = some v0 ∧ ((w.setCell ⟨c, 0, none⟩ u0).setCell ⟨c, 1, none⟩ u1).cell? ⟨d, 1, none⟩ = some v1 ∧
    Row ((w.setCell ⟨c, 0, none⟩ u0).setCell ⟨c, 1, none⟩ u1) r ∧ Below W.heap.size W ((w.setCell ⟨c, 0, none⟩ u0).setCell ⟨c, 1, none⟩ u1) ∧ New W ((w.setCell ⟨c, 0, none⟩ u0).setCell ⟨c, 1, none⟩ u1) p1 X1 l1 := by
  have e := set2_same (u := u0) (v := u1) h0 h1
  exact ⟨e.1, e.2, (set2_far ne).trans g0, (set2_far ne).trans g1, (gR.setCell _ _).setCell _ _, bsetW (bsetW hBW ge) ge, s1.set2 ge h0 h1⟩

theorem ln_pow {k m : Nat} (h : k < 32 * m) : ln (2 ^ k) ≤ m := ln_le_of_lt (pow_shl h)
theorem dn_high {s : Bool} {X k : Nat} (h : ¬ (s = true ∧ X % 2 ^ k ≠ 0)) : ¬ sgn (sg s (X % 2 ^ k)) * sd false < 0 := by
  by_cases hz : X % 2 ^ k = 0
  · rw [hz]; cases s <;> decide
  · have : s = false := by cases s; rfl; exact absurd ⟨rfl, hz⟩ h
    rw [this, sgn_sg hz]; decide
theorem dn_low {X k : Nat} (h : X % 2 ^ k ≠ 0) : sgn (sg true (X % 2 ^ k)) * sd false < 0 := by
  rw [sgn_sg h]; decide
/-- the reference's Floor by a power of two -/
theorem vfloor_pow (s : Bool) (ao : Option Addr) (n cap X k P : Nat) (Z : Int) (hP : 2 ^ k = P) (hm : n ≤ 70368744177650) (hm2 : ln P ≤ 70368744177650) (hZ : sg s (dnA s X k) = Z) :
    ∃ G : Int, ∀ w' p, Seg w' ao X n → Seg w' p P (ln P) → Calls Try.prog 31 #[.agg #[.bool s, .slice ao n cap], .agg #[.bool false, .slice p (ln P) (ln P)]] w' fun e w'' => ∃ aq ar, e = .returned (.tuple #[.agg #[.bool (ng Z), .slice aq (ln (am Z)) (ln (am Z))], .agg #[.bool (ng G), .slice ar (ln (am G)) (ln (am G))], .int .i64 0]) ∧ New w' w'' aq (am Z) (ln (am Z)) ∧ New w' w'' ar (am G) (ln (am G)) := by
  have hp : 0 < P := by rw [← hP]; exact Nat.two_pow_pos k
  have hX : X = X / P * P + X % P := by have := Nat.div_add_mod X P; rw [Nat.mul_comm] at this; exact this.symm
  by_cases h : s = true ∧ X % 2 ^ k ≠ 0
  · refine ⟨_, fun w' p k1 k2 => vFloor_low s ao n cap X false p (ln P) (ln P) P (X / P) (X % P) _ _ Z _ w' hm k1 hm2 k2 hX (Nat.mod_lt _ hp) rfl rfl (by rw [h.1, ← hP]; exact dn_low h.2) ?_ rfl⟩
    rw [← hZ]
    unfold dnA
    rw [if_pos h, h.1, hP]
    show sg true (X / P) - 1 = sg true (X / P + 1)
    simp only [sg, if_true]
    omega
  · obtain ⟨G, hG⟩ : ∃ G, sg s (X % P) = G := ⟨_, rfl⟩
    refine ⟨G, fun w' p k1 k2 => vFloor_high s ao n cap X false p (ln P) (ln P) P (X / P) (X % P) Z G w' hm k1 hm2 k2 hX (Nat.mod_lt _ hp) ?_ hG (by rw [← hG, ← hP]; exact dn_high h)⟩
    rw [← hZ]
    unfold dnA
    rw [if_neg h, hP]
    cases s <;> rfl
theorem made_f (pa : Option Addr) (P : Nat) (w : World) (hm : ln P ≤ 70368744177664) (hS : Seg w pa P (ln P)) :
    Calls Try.prog 30 #[.bool false, .slice pa (ln P) (ln P)] w fun e w' => ∃ a, e = .returned (.agg #[.bool false, .slice a (ln P) (ln P)]) ∧ New w w' a P (ln P) := by
  have h := made_is false pa (ln P) (ln P) P _ w hm hS rfl
  rw [am_sg, ng_sg, Bool.false_and] at h
  exact h
theorem rShift_upS (ao : Option Addr) (n cap X k : Nat) (w : World) (hm : n ≤ 70368744100000) (hk : k ≤ 1048576) (hS : Seg w ao X n) :
    Calls Try.prog 29 #[.slice ao n cap, .int .i64 (k : Int)] w fun e w' => ∃ a', e = .returned (.tuple #[.slice a' (ln (X * 2 ^ k)) (ln (X * 2 ^ k)), .int .i64 0]) ∧ Seg w' a' (X * 2 ^ k) (ln (X * 2 ^ k)) ∧ Below w.heap.size w w' := by
  by_cases h0 : X = 0
  · subst h0
    rw [Nat.zero_mul, ln_zero]
    exact (rShift_zero ao n cap k w (by omega) (by omega) (by omega) hS).mono fun e w' ⟨a, he, hb⟩ => ⟨a, he, Seg.nil _ _, hb⟩
  · exact (rShift_up ao n cap X k w hm hk hS h0).mono fun e w' ⟨a, he, hn⟩ => ⟨a, he, hn.seg, hn.below⟩
set_option maxHeartbeats 8000000 in
set_option maxRecDepth 100000 in
theorem vShift_lo (s : Bool) (ao : Option Addr) (n cap X : Nat) (w : World) (hm : n ≤ 35184372088832) (hS : Seg w ao X n) (z : Int) (hz : z < -1048576) : Calls Try.prog 8 #[.agg #[.bool s, .slice ao n cap], .int .i64 z] w fun e w' => e = .returned (.tuple #[.agg #[.bool false, .slice none 0 0], .int .i64 12]) ∧ Below w.heap.size w w' := by
  go_enter Try.func8, Try.ntmps8
  go_wp2_with fail
  obtain ⟨W, hW⟩ : ∃ W, ((w.alloc (.cells #[.bool s, .slice ao n cap] 25)).alloc (.cells #[.bool false, .slice none 0 0] 25)) = W := ⟨_, rfl⟩
  have q00 : W.cell? ⟨w.heap.size, 0, none⟩ = some (.bool s) := by subst hW; go_simp
  have q01 : W.cell? ⟨w.heap.size, 1, none⟩ = some (.slice ao n cap) := by subst hW; go_simp
  have r00 : W.cell? ⟨w.heap.size + 1, 0, none⟩ = some (.bool false) := by subst hW; go_simp
  have r01 : W.cell? ⟨w.heap.size + 1, 1, none⟩ = some (.slice none 0 0) := by subst hW; go_simp
  have hB : Below w.heap.size w W := by subst hW; exact (((Below.refl _ _).alloc (by (try simp only [World.size_alloc]); omega) _).alloc (by (try simp only [World.size_alloc]); omega) _)
  have hR0 : Row W (w.heap.size + 1) := by
    have := row_new ((w.alloc (.cells #[.bool s, .slice ao n cap] 25))) #[.bool false, .slice none 0 0] 25
    try simp only [World.size_alloc] at this
    subst hW; exact this
  have hz : W.heap.size = w.heap.size + 1 + 1 := by subst hW; simp only [World.size_alloc]
  rw [hW]
  clear hW
  have hBW : Below W.heap.size W W := Below.refl _ _
  have fz0 := fun o => hR0.frozen o
  go_wp2
  all_goals refine bodyPost_ret (v := .tuple #[.agg #[.bool false, .slice none 0 0], .int .i64 12]) (by rw [results_ctS rfl]; go_simp) rfl ?_
  all_goals exact ⟨rfl, by first | exact hB.trans (hBW.mono hB.size) | exact ((bsetS (bsetS (hB.trans (hBW.mono hB.size)) (by omega)) (by omega)))⟩

set_option maxHeartbeats 8000000 in
set_option maxRecDepth 100000 in
theorem vShift_hi (s : Bool) (ao : Option Addr) (n cap X : Nat) (w : World) (hm : n ≤ 35184372088832) (hS : Seg w ao X n) (z : Int) (hz : 1048576 < z) : Calls Try.prog 8 #[.agg #[.bool s, .slice ao n cap], .int .i64 z] w fun e w' => e = .returned (.tuple #[.agg #[.bool false, .slice none 0 0], .int .i64 12]) ∧ Below w.heap.size w w' := by
  have hz2 : ¬ (z < -1048576) := by omega
  go_enter Try.func8, Try.ntmps8
  go_wp2_with fail
  obtain ⟨W, hW⟩ : ∃ W, ((w.alloc (.cells #[.bool s, .slice ao n cap] 25)).alloc (.cells #[.bool false, .slice none 0 0] 25)) = W := ⟨_, rfl⟩
  have q00 : W.cell? ⟨w.heap.size, 0, none⟩ = some (.bool s) := by subst hW; go_simp
  have q01 : W.cell? ⟨w.heap.size, 1, none⟩ = some (.slice ao n cap) := by subst hW; go_simp
  have r00 : W.cell? ⟨w.heap.size + 1, 0, none⟩ = some (.bool false) := by subst hW; go_simp
  have r01 : W.cell? ⟨w.heap.size + 1, 1, none⟩ = some (.slice none 0 0) := by subst hW; go_simp
  have hB : Below w.heap.size w W := by subst hW; exact (((Below.refl _ _).alloc (by (try simp only [World.size_alloc]); omega) _).alloc (by (try simp only [World.size_alloc]); omega) _)
  have hR0 : Row W (w.heap.size + 1) := by
    have := row_new ((w.alloc (.cells #[.bool s, .slice ao n cap] 25))) #[.bool false, .slice none 0 0] 25
    try simp only [World.size_alloc] at this
    subst hW; exact this
  have hz : W.heap.size = w.heap.size + 1 + 1 := by subst hW; simp only [World.size_alloc]
  rw [hW]
  clear hW
  have hBW : Below W.heap.size W W := Below.refl _ _
  have fz0 := fun o => hR0.frozen o
  go_wp2
  all_goals refine bodyPost_ret (v := .tuple #[.agg #[.bool false, .slice none 0 0], .int .i64 12]) (by rw [results_ctS rfl]; go_simp) rfl ?_
  all_goals exact ⟨rfl, by first | exact hB.trans (hBW.mono hB.size) | exact ((bsetS (bsetS (hB.trans (hBW.mono hB.size)) (by omega)) (by omega)))⟩

set_option maxHeartbeats 8000000 in
set_option maxRecDepth 100000 in
theorem vShift_up (s : Bool) (ao : Option Addr) (n cap X : Nat) (w : World) (hm : n ≤ 35184372088832) (hS : Seg w ao X n) (k : Nat) (hk : k ≤ 1048576) (Z : Int) (hZ : sg s (X * 2 ^ k) = Z) : Calls Try.prog 8 #[.agg #[.bool s, .slice ao n cap], .int .i64 (k : Int)] w fun e w' => ∃ a', e = .returned (.tuple #[.agg #[.bool (ng Z), .slice a' (ln (am Z)) (ln (am Z))], .int .i64 0]) ∧ New w w' a' (am Z) (ln (am Z)) := by
  have hV := ln_shl_le hS.1 hk
  have H1' := fun w' h => rShift_upS ao n cap X k w' (by omega) hk h
  obtain ⟨V, hV2⟩ : ∃ V, X * 2 ^ k = V := ⟨_, rfl⟩
  rw [hV2] at H1' hZ hV
  have H1 := hide' H1'
  have HZ := hide' hZ
  have hk0 : ¬ ((k : Int) < -1048576) := by omega
  have hk1 : ¬ ((1048576 : Int) < (k : Int)) := by omega
  have hk2 : (0 : Int) ≤ (k : Int) := by omega
  clear H1' hZ hV2
  go_enter Try.func8, Try.ntmps8
  go_wp2_with fail
  obtain ⟨W, hW⟩ : ∃ W, ((w.alloc (.cells #[.bool s, .slice ao n cap] 25)).alloc (.cells #[.bool false, .slice none 0 0] 25)) = W := ⟨_, rfl⟩
  have q00 : W.cell? ⟨w.heap.size, 0, none⟩ = some (.bool s) := by subst hW; go_simp
  have q01 : W.cell? ⟨w.heap.size, 1, none⟩ = some (.slice ao n cap) := by subst hW; go_simp
  have r00 : W.cell? ⟨w.heap.size + 1, 0, none⟩ = some (.bool false) := by subst hW; go_simp
  have r01 : W.cell? ⟨w.heap.size + 1, 1, none⟩ = some (.slice none 0 0) := by subst hW; go_simp
  have hB : Below w.heap.size w W := by subst hW; exact (((Below.refl _ _).alloc (by (try simp only [World.size_alloc]); omega) _).alloc (by (try simp only [World.size_alloc]); omega) _)
  have hR0 : Row W (w.heap.size + 1) := by
    have := row_new ((w.alloc (.cells #[.bool s, .slice ao n cap] 25))) #[.bool false, .slice none 0 0] 25
    try simp only [World.size_alloc] at this
    subst hW; exact this
  have hz : W.heap.size = w.heap.size + 1 + 1 := by subst hW; simp only [World.size_alloc]
  rw [hW]
  clear hW
  have hBW : Below W.heap.size W W := Below.refl _ _
  refine (H1.out _ (sb hS hB hBW)).mono ?_
  rintro e w41 ⟨pa, rfl, sp, b41⟩
  replace hBW := hBW.trans (b41.mono hBW.size)
  replace q00 := below_cell b41 q00
  replace q01 := below_cell b41 q01
  replace r00 := below_cell b41 r00
  replace r01 := below_cell b41 r01
  replace hR0 := below_row b41 hR0
  go_wp2_with fail
  refine (made_is s pa (ln V) (ln V) V Z _ (by omega) sp HZ.out).mono ?_
  rintro e w42 ⟨p42, rfl, hp42⟩
  have b42 := hp42.below
  replace hp42 := hp42.back hBW
  replace hBW := hBW.trans (b42.mono hBW.size)
  replace q00 := below_cell b42 q00
  replace q01 := below_cell b42 q01
  replace r00 := below_cell b42 r00
  replace r01 := below_cell b42 r01
  replace hR0 := below_row b42 hR0
  have fz0 := fun o => hR0.frozen o
  go_wp2
  all_goals refine bodyPost_ret (v := .tuple #[.agg #[.bool (ng Z), .slice p42 (ln (am Z)) (ln (am Z))], .int .i64 0]) (by rw [results_ctS rfl]; go_simp) rfl ?_
  all_goals exact ⟨p42, rfl, hp42.mid hB ((((Mid.refl _ _ _).set _ _ (by omega) (by omega) _).set _ _ (by omega) (by omega) _))⟩

set_option maxHeartbeats 8000000 in
set_option maxRecDepth 100000 in
theorem vShift_dn (s : Bool) (ao : Option Addr) (n cap X : Nat) (w : World) (hm : n ≤ 35184372088832) (hS : Seg w ao X n) (k : Nat) (h0 : 0 < k) (hk : k ≤ 1048576) (Z : Int) (hZ : sg s (dnA s X k) = Z) : Calls Try.prog 8 #[.agg #[.bool s, .slice ao n cap], .int .i64 (-(k : Int))] w fun e w' => ∃ a', e = .returned (.tuple #[.agg #[.bool (ng Z), .slice a' (ln (am Z)) (ln (am Z))], .int .i64 0]) ∧ New w w' a' (am Z) (ln (am Z)) := by
  obtain ⟨P, hP⟩ : ∃ P, 2 ^ k = P := ⟨_, rfl⟩
  have lP : ln P ≤ 32769 := by rw [← hP]; exact ln_pow (by omega)
  obtain ⟨G, hF⟩ := vfloor_pow s ao n cap X k P Z hP (by omega) (by omega) hZ
  have H1' := fun w' a' h => rShift_up a' 1 1 1 k w' (by omega) hk h (by omega)
  rw [Nat.one_mul, hP] at H1'
  have H1 := hide' H1'
  have HF := hide' hF
  have hk0 : ¬ ((-(k : Int)) < -1048576) := by omega
  have hk1 : ¬ ((1048576 : Int) < (-(k : Int))) := by omega
  have hk2 : ¬ ((0 : Int) ≤ (-(k : Int))) := by omega
  have hnn : (0 : Int) - (-(k : Int)) = (k : Int) := by omega
  have hw : IntKind.i64.wrap (k : Int) = (k : Int) := by rw [IntKind.wrap_i64]; omega
  clear H1' hF hZ hP
  go_enter Try.func8, Try.ntmps8
  go_wp2_with fail
  obtain ⟨W, hW⟩ : ∃ W, ((w.alloc (.cells #[.bool s, .slice ao n cap] 25)).alloc (.cells #[.bool false, .slice none 0 0] 25)) = W := ⟨_, rfl⟩
  have q00 : W.cell? ⟨w.heap.size, 0, none⟩ = some (.bool s) := by subst hW; go_simp
  have q01 : W.cell? ⟨w.heap.size, 1, none⟩ = some (.slice ao n cap) := by subst hW; go_simp
  have r00 : W.cell? ⟨w.heap.size + 1, 0, none⟩ = some (.bool false) := by subst hW; go_simp
  have r01 : W.cell? ⟨w.heap.size + 1, 1, none⟩ = some (.slice none 0 0) := by subst hW; go_simp
  have hB : Below w.heap.size w W := by subst hW; exact (((Below.refl _ _).alloc (by (try simp only [World.size_alloc]); omega) _).alloc (by (try simp only [World.size_alloc]); omega) _)
  have hR0 : Row W (w.heap.size + 1) := by
    have := row_new ((w.alloc (.cells #[.bool s, .slice ao n cap] 25))) #[.bool false, .slice none 0 0] 25
    try simp only [World.size_alloc] at this
    subst hW; exact this
  have hz : W.heap.size = w.heap.size + 1 + 1 := by subst hW; simp only [World.size_alloc]
  rw [hW]
  clear hW
  have hBW : Below W.heap.size W W := Below.refl _ _
  have nb := single_new W 1 50 1 (by omega) rfl
  rw [hz] at nb
  refine (H1.out _ _ nb.seg).mono ?_
  rintro e w41 ⟨p41, rfl, hp41⟩
  have b41 := nb.below.trans (hp41.below.mono nb.below.size)
  have khp := hp41.seg
  clear hp41 nb
  replace hBW := hBW.trans (b41.mono hBW.size)
  replace q00 := below_cell b41 q00
  replace q01 := below_cell b41 q01
  replace r00 := below_cell b41 r00
  replace r01 := below_cell b41 r01
  replace hR0 := below_row b41 hR0
  go_wp2_with fail
  have hsB := hBW.size
  replace hB := hB.trans (hBW.mono hB.size)
  have hltBhR0 := hR0.lt
  clear hBW
  have hBW : Below w41.heap.size w41 w41 := Below.refl _ _
  have sa := (sb hS hB hBW)
  have hzz : w.heap.size + 1 + 1 ≤ w41.heap.size := by omega
  clear hz
  go_cut [10, 11, 12] from 40 to 47 (fun s3 s4 s5 wx => ∃ c aq, s3 = .pointer (some ⟨c, 0, none⟩) ∧ w41.heap.size ≤ c ∧ wx.cell? ⟨c, 0, none⟩ = some (.bool (ng Z)) ∧ wx.cell? ⟨c, 1, none⟩ = some (.slice aq (ln (am Z)) (ln (am Z))) ∧ New w41 wx aq (am Z) (ln (am Z)) ∧ Below w41.heap.size w41 wx)
  case first =>
    have Qq00 := q00
    have Qq01 := q01
    clear q00 q01 r00 r01 hR0
    replace hBW := hBW.drew
    refine wp_region_held_drew (S := (fun w' => w'.cell? ⟨w.heap.size, 0, none⟩ = some (.bool s) ∧ w'.cell? ⟨w.heap.size, 1, none⟩ = some (.slice ao n cap) ∧ Below w.heap.size w w')) (by kernel_rfl) (kp2 (W := w41) hBW ⟨Qq00, Qq01, hB⟩) (fun hHeld => ?_)
    replace khp := khp.drew
    replace sa := sa.drew
    generalize w41.drew = w0 at hBW khp sa hHeld ⊢
    refine take' 0 (v := ?_) rfl (by kernel_rfl) (by kernel_rfl) (by kernel_rfl) (fun _ _ _ h => h) (Or.inl ⟨by rfl, ?_⟩) (by assumption) ?_
    rotate_left
    · intro w9 hSw
      go_simp
      first | done | with_reducible rfl
    simp only [Act.put, List.setIfInBounds_toArray, List.set_cons_zero, List.set_cons_succ]
    refine take' 1 (v := ?_) rfl (by kernel_rfl) (by kernel_rfl) (by kernel_rfl) (fun _ _ _ h => h) (Or.inl ⟨by rfl, ?_⟩) (by assumption) ?_
    rotate_left
    · intro w9 hSw
      go_simp
      first | done | with_reducible rfl
    simp only [Act.put, List.setIfInBounds_toArray, List.set_cons_zero, List.set_cons_succ]
    refine wpAnyH_ready (rs := [2, 8, 9]) (by kernel_rfl) (by simp) ?_
    refine consT rfl (fun K hK => ?_) ?_
    · skip
      go_simp
      refine Calls.mono (made_f p41 P _ (by omega) khp) ?_
      rintro e w2 ⟨pm, rfl, hm1⟩
      have bb := hm1.below
      have sm := hm1.seg
      clear hm1
      replace hBW := hBW.trans (bb.mono hBW.size)
      replace khp := khp.later bb
      replace sa := sa.later bb
      clear bb
      go_wp2_with fail
      refine hK.out _ _ (kp2 (W := w41) hBW ⟨Qq00, Qq01, hB⟩) ?_
      clear hHeld
      intro hHeld
      clear hK K
      try simp only [Act.put, List.setIfInBounds_toArray, List.set_cons_zero, List.set_cons_succ]
      refine wpAnyH_ready (rs := [3, 8, 9]) (by kernel_rfl) (by simp) ?_
      refine consT rfl (fun K hK => ?_) ?_
      · skip
        go_simp
        refine Calls.mono (HF.out _ pm sa sm) ?_
        rintro e w2_3 ⟨aq, ar, rfl, hF, hG⟩
        have bb := hF.below
        replace hF := hF.back hBW
        replace hG := hG.back hBW
        replace hBW := hBW.trans (bb.mono hBW.size)
        replace khp := khp.later bb
        replace sa := sa.later bb
        replace sm := sm.later bb
        clear bb
        go_wp2_with fail
        refine hK.out _ _ (kp2 (W := w41) hBW ⟨Qq00, Qq01, hB⟩) ?_
        clear hHeld
        intro hHeld
        clear hK K
        try simp only [Act.put, List.setIfInBounds_toArray, List.set_cons_zero, List.set_cons_succ]
        refine take' 4 (v := ?_) rfl (by kernel_rfl) (by kernel_rfl) (by kernel_rfl) (fun _ _ _ h => h) (Or.inl ⟨by rfl, ?_⟩) (by assumption) ?_
        rotate_left
        · intro w9 hSw
          go_simp
          first | done | with_reducible rfl
        simp only [Act.put, List.setIfInBounds_toArray, List.set_cons_zero, List.set_cons_succ]
        refine take' 5 (v := ?_) rfl (by kernel_rfl) (by kernel_rfl) (by kernel_rfl) (fun _ _ _ h => h) (Or.inl ⟨by rfl, ?_⟩) (by assumption) ?_
        rotate_left
        · intro w9 hSw
          go_simp
          first | done | with_reducible rfl
        simp only [Act.put, List.setIfInBounds_toArray, List.set_cons_zero, List.set_cons_succ]
        refine take' 6 (v := ?_) rfl (by kernel_rfl) (by kernel_rfl) (by kernel_rfl) (fun _ _ _ h => h) (Or.inl ⟨by rfl, ?_⟩) (by assumption) ?_
        rotate_left
        · intro w9 hSw
          go_simp
          first | done | with_reducible rfl
        simp only [Act.put, List.setIfInBounds_toArray, List.set_cons_zero, List.set_cons_succ]
        refine take' 7 (v := ?_) rfl (by kernel_rfl) (by kernel_rfl) (by kernel_rfl) (fun _ _ _ h => h) (Or.inl ⟨by rfl, ?_⟩) (by assumption) ?_
        rotate_left
        · intro w9 hSw
          go_simp
          first | done | with_reducible rfl
        simp only [Act.put, List.setIfInBounds_toArray, List.set_cons_zero, List.set_cons_succ]
        refine wpAnyH_ready (rs := [8, 9]) (by kernel_rfl) (by simp) ?_
        refine consT rfl (fun K hK => ?_) ?_
        · skip
          go_simp
          have bb := below_alloc (w := w2_3) (.cells #[.bool false, .slice none 0 0] 25)
          have lcge := hBW.size
          replace hBW := hBW.trans (bb.mono hBW.size)
          replace khp := khp.later bb
          replace sa := sa.later bb
          replace sm := sm.later bb
          replace hF := hF.later bb
          replace hG := hG.later bb
          clear bb
          have lc0 : (w2_3.alloc (.cells #[.bool false, .slice none 0 0] 25)).cell? ⟨w2_3.heap.size, 0, none⟩ = some (.bool false) := by go_simp
          have lc1 : (w2_3.alloc (.cells #[.bool false, .slice none 0 0] 25)).cell? ⟨w2_3.heap.size, 1, none⟩ = some (.slice none 0 0) := by go_simp
          have lcR : Row (w2_3.alloc (.cells #[.bool false, .slice none 0 0] 25)) w2_3.heap.size := row_new w2_3 _ 25
          clear hHeld
          generalize (w2_3.alloc (.cells #[.bool false, .slice none 0 0] 25)) = w2_3_8 at hBW lc0 lc1 lcR khp sa sm hF hG ⊢
          generalize w2_3.heap.size = c at lcge lc0 lc1 lcR ⊢
          refine hK.out _ _ (kp2 (W := w41) hBW ⟨Qq00, Qq01, hB⟩) ?_
          intro hHeld
          clear hK K
          try simp only [Act.put, List.setIfInBounds_toArray, List.set_cons_zero, List.set_cons_succ]
          refine wpAnyH_ready (rs := [9]) (by kernel_rfl) (by simp) ?_
          refine consT rfl (fun K hK => ?_) ?_
          · skip
            go_simp
            have bb := below_alloc (w := w2_3_8) (.cells #[.bool false, .slice none 0 0] 25)
            have ldge := hBW.size
            have lab := lcR.lt
            replace hBW := hBW.trans (bb.mono hBW.size)
            replace khp := khp.later bb
            replace sa := sa.later bb
            replace sm := sm.later bb
            replace hF := hF.later bb
            replace hG := hG.later bb
            replace lc0 := below_cell bb lc0
            replace lc1 := below_cell bb lc1
            replace lcR := below_row bb lcR
            clear bb
            have ld0 : (w2_3_8.alloc (.cells #[.bool false, .slice none 0 0] 25)).cell? ⟨w2_3_8.heap.size, 0, none⟩ = some (.bool false) := by go_simp
            have ld1 : (w2_3_8.alloc (.cells #[.bool false, .slice none 0 0] 25)).cell? ⟨w2_3_8.heap.size, 1, none⟩ = some (.slice none 0 0) := by go_simp
            have ldR : Row (w2_3_8.alloc (.cells #[.bool false, .slice none 0 0] 25)) w2_3_8.heap.size := row_new w2_3_8 _ 25
            clear hHeld
            generalize (w2_3_8.alloc (.cells #[.bool false, .slice none 0 0] 25)) = w2_3_8_9 at hBW ld0 ld1 ldR lc0 lc1 lcR khp sa sm hF hG ⊢
            generalize w2_3_8.heap.size = d at ldge ld0 ld1 ldR lab ⊢
            refine hK.out _ _ (kp2 (W := w41) hBW ⟨Qq00, Qq01, hB⟩) ?_
            intro hHeld
            clear hK K
            try simp only [Act.put, List.setIfInBounds_toArray, List.set_cons_zero, List.set_cons_succ]
            have lcd : c ≠ d := by omega
            clear lab
            refine wpAnyH_ready (rs := [10]) (by kernel_rfl) (by simp) ?_
            refine cons' rfl (fun K hK => ?_)
            have lf := fun o => lcR.frozen o
            have X := stored2 (u0 := .bool (ng Z)) (u1 := .slice aq (ln (am Z)) (ln (am Z))) lc0 lc1 ld0 ld1 ldR hBW lcge lcd hF
            go_simp
            clear lc0 lc1 ld0 ld1 lf lcR ldR hHeld hBW hF
            generalize ((w2_3_8_9.setCell ⟨c, 0, none⟩ (.bool (ng Z))).setCell ⟨c, 1, none⟩ (.slice aq (ln (am Z)) (ln (am Z)))) = wl1 at X ⊢
            obtain ⟨lc0, lc1, ld0, ld1, ldR, hBW, hF⟩ := X
            have lcR := ldR
            refine hK.out _ _ (kp2 (W := w41) hBW ⟨Qq00, Qq01, hB⟩) ?_
            intro hHeld
            clear hK K
            try simp only [Act.put, List.setIfInBounds_toArray, List.set_cons_zero, List.set_cons_succ]
            refine wpAnyH_ready (rs := [11]) (by kernel_rfl) (by simp) ?_
            refine cons' rfl (fun K hK => ?_)
            have lf := fun o => ldR.frozen o
            have X := stored2 (u0 := .bool (ng G)) (u1 := .slice ar (ln (am G)) (ln (am G))) ld0 ld1 lc0 lc1 lcR hBW ldge lcd.symm hF
            go_simp
            clear ld0 ld1 lc0 lc1 lf ldR lcR hHeld hBW hF
            generalize ((wl1.setCell ⟨d, 0, none⟩ (.bool (ng G))).setCell ⟨d, 1, none⟩ (.slice ar (ln (am G)) (ln (am G)))) = wl2 at X ⊢
            obtain ⟨ld0, ld1, lc0, lc1, lcR, hBW, hF⟩ := X
            have ldR := lcR
            refine hK.out _ _ (kp2 (W := w41) hBW ⟨Qq00, Qq01, hB⟩) ?_
            intro hHeld
            clear hK K
            try simp only [Act.put, List.setIfInBounds_toArray, List.set_cons_zero, List.set_cons_succ]
            refine take' 12 (v := ?_) rfl (by kernel_rfl) (by kernel_rfl) (by kernel_rfl) (fun _ _ _ h => h) (Or.inl ⟨by rfl, ?_⟩) (by assumption) ?_
            rotate_left
            · intro w9 hSw
              go_simp
              first | done | with_reducible rfl
            simp only [Act.put, List.setIfInBounds_toArray, List.set_cons_zero, List.set_cons_succ]
            refine wpAnyH_done (by kernel_rfl) ?_ _
            go_wp2_with fail
            go_meet
            exact ⟨c, aq, rfl, lcge, lc0, lc1, hF, hBW⟩
          exact AllReadyH.nil
        refine consT rfl (fun K hK => ?_) ?_
        · skip
          go_simp
          have bb := below_alloc (w := w2_3) (.cells #[.bool false, .slice none 0 0] 25)
          have ldge := hBW.size
          replace hBW := hBW.trans (bb.mono hBW.size)
          replace khp := khp.later bb
          replace sa := sa.later bb
          replace sm := sm.later bb
          replace hF := hF.later bb
          replace hG := hG.later bb
          clear bb
          have ld0 : (w2_3.alloc (.cells #[.bool false, .slice none 0 0] 25)).cell? ⟨w2_3.heap.size, 0, none⟩ = some (.bool false) := by go_simp
          have ld1 : (w2_3.alloc (.cells #[.bool false, .slice none 0 0] 25)).cell? ⟨w2_3.heap.size, 1, none⟩ = some (.slice none 0 0) := by go_simp
          have ldR : Row (w2_3.alloc (.cells #[.bool false, .slice none 0 0] 25)) w2_3.heap.size := row_new w2_3 _ 25
          clear hHeld
          generalize (w2_3.alloc (.cells #[.bool false, .slice none 0 0] 25)) = w2_3_9 at hBW ld0 ld1 ldR khp sa sm hF hG ⊢
          generalize w2_3.heap.size = d at ldge ld0 ld1 ldR ⊢
          refine hK.out _ _ (kp2 (W := w41) hBW ⟨Qq00, Qq01, hB⟩) ?_
          intro hHeld
          clear hK K
          try simp only [Act.put, List.setIfInBounds_toArray, List.set_cons_zero, List.set_cons_succ]
          refine wpAnyH_ready (rs := [8]) (by kernel_rfl) (by simp) ?_
          refine consT rfl (fun K hK => ?_) ?_
          · skip
            go_simp
            have bb := below_alloc (w := w2_3_9) (.cells #[.bool false, .slice none 0 0] 25)
            have lcge := hBW.size
            have lab := ldR.lt
            replace hBW := hBW.trans (bb.mono hBW.size)
            replace khp := khp.later bb
            replace sa := sa.later bb
            replace sm := sm.later bb
            replace hF := hF.later bb
            replace hG := hG.later bb
            replace ld0 := below_cell bb ld0
            replace ld1 := below_cell bb ld1
            replace ldR := below_row bb ldR
            clear bb
            have lc0 : (w2_3_9.alloc (.cells #[.bool false, .slice none 0 0] 25)).cell? ⟨w2_3_9.heap.size, 0, none⟩ = some (.bool false) := by go_simp
            have lc1 : (w2_3_9.alloc (.cells #[.bool false, .slice none 0 0] 25)).cell? ⟨w2_3_9.heap.size, 1, none⟩ = some (.slice none 0 0) := by go_simp
            have lcR : Row (w2_3_9.alloc (.cells #[.bool false, .slice none 0 0] 25)) w2_3_9.heap.size := row_new w2_3_9 _ 25
            clear hHeld
            generalize (w2_3_9.alloc (.cells #[.bool false, .slice none 0 0] 25)) = w2_3_9_8 at hBW lc0 lc1 lcR ld0 ld1 ldR khp sa sm hF hG ⊢
            generalize w2_3_9.heap.size = c at lcge lc0 lc1 lcR lab ⊢
            refine hK.out _ _ (kp2 (W := w41) hBW ⟨Qq00, Qq01, hB⟩) ?_
            intro hHeld
            clear hK K
            try simp only [Act.put, List.setIfInBounds_toArray, List.set_cons_zero, List.set_cons_succ]
            have lcd : c ≠ d := by omega
            clear lab
            refine wpAnyH_ready (rs := [10]) (by kernel_rfl) (by simp) ?_
            refine cons' rfl (fun K hK => ?_)
            have lf := fun o => lcR.frozen o
            have X := stored2 (u0 := .bool (ng Z)) (u1 := .slice aq (ln (am Z)) (ln (am Z))) lc0 lc1 ld0 ld1 ldR hBW lcge lcd hF
            go_simp
            clear lc0 lc1 ld0 ld1 lf lcR ldR hHeld hBW hF
            generalize ((w2_3_9_8.setCell ⟨c, 0, none⟩ (.bool (ng Z))).setCell ⟨c, 1, none⟩ (.slice aq (ln (am Z)) (ln (am Z)))) = wl1 at X ⊢
            obtain ⟨lc0, lc1, ld0, ld1, ldR, hBW, hF⟩ := X
            have lcR := ldR
            refine hK.out _ _ (kp2 (W := w41) hBW ⟨Qq00, Qq01, hB⟩) ?_
            intro hHeld
            clear hK K
            try simp only [Act.put, List.setIfInBounds_toArray, List.set_cons_zero, List.set_cons_succ]
            refine wpAnyH_ready (rs := [11]) (by kernel_rfl) (by simp) ?_
            refine cons' rfl (fun K hK => ?_)
            have lf := fun o => ldR.frozen o
            have X := stored2 (u0 := .bool (ng G)) (u1 := .slice ar (ln (am G)) (ln (am G))) ld0 ld1 lc0 lc1 lcR hBW ldge lcd.symm hF
            go_simp
            clear ld0 ld1 lc0 lc1 lf ldR lcR hHeld hBW hF
            generalize ((wl1.setCell ⟨d, 0, none⟩ (.bool (ng G))).setCell ⟨d, 1, none⟩ (.slice ar (ln (am G)) (ln (am G)))) = wl2 at X ⊢
            obtain ⟨ld0, ld1, lc0, lc1, lcR, hBW, hF⟩ := X
            have ldR := lcR
            refine hK.out _ _ (kp2 (W := w41) hBW ⟨Qq00, Qq01, hB⟩) ?_
            intro hHeld
            clear hK K
            try simp only [Act.put, List.setIfInBounds_toArray, List.set_cons_zero, List.set_cons_succ]
            refine take' 12 (v := ?_) rfl (by kernel_rfl) (by kernel_rfl) (by kernel_rfl) (fun _ _ _ h => h) (Or.inl ⟨by rfl, ?_⟩) (by assumption) ?_
            rotate_left
            · intro w9 hSw
              go_simp
              first | done | with_reducible rfl
            simp only [Act.put, List.setIfInBounds_toArray, List.set_cons_zero, List.set_cons_succ]
            refine wpAnyH_done (by kernel_rfl) ?_ _
            go_wp2_with fail
            go_meet
            exact ⟨c, aq, rfl, lcge, lc0, lc1, hF, hBW⟩
          exact AllReadyH.nil
        exact AllReadyH.nil
      refine consT rfl (fun K hK => ?_) ?_
      · skip
        go_simp
        have bb := below_alloc (w := w2) (.cells #[.bool false, .slice none 0 0] 25)
        have lcge := hBW.size
        replace hBW := hBW.trans (bb.mono hBW.size)
        replace khp := khp.later bb
        replace sa := sa.later bb
        replace sm := sm.later bb
        clear bb
        have lc0 : (w2.alloc (.cells #[.bool false, .slice none 0 0] 25)).cell? ⟨w2.heap.size, 0, none⟩ = some (.bool false) := by go_simp
        have lc1 : (w2.alloc (.cells #[.bool false, .slice none 0 0] 25)).cell? ⟨w2.heap.size, 1, none⟩ = some (.slice none 0 0) := by go_simp
        have lcR : Row (w2.alloc (.cells #[.bool false, .slice none 0 0] 25)) w2.heap.size := row_new w2 _ 25
        clear hHeld
        generalize (w2.alloc (.cells #[.bool false, .slice none 0 0] 25)) = w2_8 at hBW lc0 lc1 lcR khp sa sm ⊢
        generalize w2.heap.size = c at lcge lc0 lc1 lcR ⊢
        refine hK.out _ _ (kp2 (W := w41) hBW ⟨Qq00, Qq01, hB⟩) ?_
        intro hHeld
        clear hK K
        try simp only [Act.put, List.setIfInBounds_toArray, List.set_cons_zero, List.set_cons_succ]
        refine wpAnyH_ready (rs := [3, 9]) (by kernel_rfl) (by simp) ?_
        refine consT rfl (fun K hK => ?_) ?_
        · skip
          go_simp
          refine Calls.mono (HF.out _ pm sa sm) ?_
          rintro e w2_8_3 ⟨aq, ar, rfl, hF, hG⟩
          have bb := hF.below
          replace hF := hF.back hBW
          replace hG := hG.back hBW
          replace hBW := hBW.trans (bb.mono hBW.size)
          replace khp := khp.later bb
          replace sa := sa.later bb
          replace sm := sm.later bb
          replace lc0 := below_cell bb lc0
          replace lc1 := below_cell bb lc1
          replace lcR := below_row bb lcR
          clear bb
          go_wp2_with fail
          refine hK.out _ _ (kp2 (W := w41) hBW ⟨Qq00, Qq01, hB⟩) ?_
          clear hHeld
          intro hHeld
          clear hK K
          try simp only [Act.put, List.setIfInBounds_toArray, List.set_cons_zero, List.set_cons_succ]
          refine take' 4 (v := ?_) rfl (by kernel_rfl) (by kernel_rfl) (by kernel_rfl) (fun _ _ _ h => h) (Or.inl ⟨by rfl, ?_⟩) (by assumption) ?_
          rotate_left
          · intro w9 hSw
            go_simp
            first | done | with_reducible rfl
          simp only [Act.put, List.setIfInBounds_toArray, List.set_cons_zero, List.set_cons_succ]
          refine take' 5 (v := ?_) rfl (by kernel_rfl) (by kernel_rfl) (by kernel_rfl) (fun _ _ _ h => h) (Or.inl ⟨by rfl, ?_⟩) (by assumption) ?_
          rotate_left
          · intro w9 hSw
            go_simp
            first | done | with_reducible rfl
          simp only [Act.put, List.setIfInBounds_toArray, List.set_cons_zero, List.set_cons_succ]
          refine take' 6 (v := ?_) rfl (by kernel_rfl) (by kernel_rfl) (by kernel_rfl) (fun _ _ _ h => h) (Or.inl ⟨by rfl, ?_⟩) (by assumption) ?_
          rotate_left
          · intro w9 hSw
            go_simp
            first | done | with_reducible rfl
          simp only [Act.put, List.setIfInBounds_toArray, List.set_cons_zero, List.set_cons_succ]
          refine take' 7 (v := ?_) rfl (by kernel_rfl) (by kernel_rfl) (by kernel_rfl) (fun _ _ _ h => h) (Or.inl ⟨by rfl, ?_⟩) (by assumption) ?_
          rotate_left
          · intro w9 hSw
            go_simp
            first | done | with_reducible rfl
          simp only [Act.put, List.setIfInBounds_toArray, List.set_cons_zero, List.set_cons_succ]
          refine wpAnyH_ready (rs := [9]) (by kernel_rfl) (by simp) ?_
          refine consT rfl (fun K hK => ?_) ?_
          · skip
            go_simp
            have bb := below_alloc (w := w2_8_3) (.cells #[.bool false, .slice none 0 0] 25)
            have ldge := hBW.size
            have lab := lcR.lt
            replace hBW := hBW.trans (bb.mono hBW.size)
            replace khp := khp.later bb
            replace sa := sa.later bb
            replace sm := sm.later bb
            replace hF := hF.later bb
            replace hG := hG.later bb
            replace lc0 := below_cell bb lc0
            replace lc1 := below_cell bb lc1
            replace lcR := below_row bb lcR
            clear bb
            have ld0 : (w2_8_3.alloc (.cells #[.bool false, .slice none 0 0] 25)).cell? ⟨w2_8_3.heap.size, 0, none⟩ = some (.bool false) := by go_simp
            have ld1 : (w2_8_3.alloc (.cells #[.bool false, .slice none 0 0] 25)).cell? ⟨w2_8_3.heap.size, 1, none⟩ = some (.slice none 0 0) := by go_simp
            have ldR : Row (w2_8_3.alloc (.cells #[.bool false, .slice none 0 0] 25)) w2_8_3.heap.size := row_new w2_8_3 _ 25
            clear hHeld
            generalize (w2_8_3.alloc (.cells #[.bool false, .slice none 0 0] 25)) = w2_8_3_9 at hBW ld0 ld1 ldR lc0 lc1 lcR khp sa sm hF hG ⊢
            generalize w2_8_3.heap.size = d at ldge ld0 ld1 ldR lab ⊢
            refine hK.out _ _ (kp2 (W := w41) hBW ⟨Qq00, Qq01, hB⟩) ?_
            intro hHeld
            clear hK K
            try simp only [Act.put, List.setIfInBounds_toArray, List.set_cons_zero, List.set_cons_succ]
            have lcd : c ≠ d := by omega
            clear lab
            refine wpAnyH_ready (rs := [10]) (by kernel_rfl) (by simp) ?_
            refine cons' rfl (fun K hK => ?_)
            have lf := fun o => lcR.frozen o
            have X := stored2 (u0 := .bool (ng Z)) (u1 := .slice aq (ln (am Z)) (ln (am Z))) lc0 lc1 ld0 ld1 ldR hBW lcge lcd hF
            go_simp
            clear lc0 lc1 ld0 ld1 lf lcR ldR hHeld hBW hF
            generalize ((w2_8_3_9.setCell ⟨c, 0, none⟩ (.bool (ng Z))).setCell ⟨c, 1, none⟩ (.slice aq (ln (am Z)) (ln (am Z)))) = wl1 at X ⊢
            obtain ⟨lc0, lc1, ld0, ld1, ldR, hBW, hF⟩ := X
            have lcR := ldR
            refine hK.out _ _ (kp2 (W := w41) hBW ⟨Qq00, Qq01, hB⟩) ?_
            intro hHeld
            clear hK K
            try simp only [Act.put, List.setIfInBounds_toArray, List.set_cons_zero, List.set_cons_succ]
            refine wpAnyH_ready (rs := [11]) (by kernel_rfl) (by simp) ?_
            refine cons' rfl (fun K hK => ?_)
            have lf := fun o => ldR.frozen o
            have X := stored2 (u0 := .bool (ng G)) (u1 := .slice ar (ln (am G)) (ln (am G))) ld0 ld1 lc0 lc1 lcR hBW ldge lcd.symm hF
            go_simp
            clear ld0 ld1 lc0 lc1 lf ldR lcR hHeld hBW hF
            generalize ((wl1.setCell ⟨d, 0, none⟩ (.bool (ng G))).setCell ⟨d, 1, none⟩ (.slice ar (ln (am G)) (ln (am G)))) = wl2 at X ⊢
            obtain ⟨ld0, ld1, lc0, lc1, lcR, hBW, hF⟩ := X
            have ldR := lcR
            refine hK.out _ _ (kp2 (W := w41) hBW ⟨Qq00, Qq01, hB⟩) ?_
            intro hHeld
            clear hK K
            try simp only [Act.put, List.setIfInBounds_toArray, List.set_cons_zero, List.set_cons_succ]
            refine take' 12 (v := ?_) rfl (by kernel_rfl) (by kernel_rfl) (by kernel_rfl) (fun _ _ _ h => h) (Or.inl ⟨by rfl, ?_⟩) (by assumption) ?_
            rotate_left
            · intro w9 hSw
              go_simp
              first | done | with_reducible rfl
            simp only [Act.put, List.setIfInBounds_toArray, List.set_cons_zero, List.set_cons_succ]
            refine wpAnyH_done (by kernel_rfl) ?_ _
            go_wp2_with fail
            go_meet
            exact ⟨c, aq, rfl, lcge, lc0, lc1, hF, hBW⟩
          exact AllReadyH.nil
        refine consT rfl (fun K hK => ?_) ?_
        · skip
          go_simp
          have bb := below_alloc (w := w2_8) (.cells #[.bool false, .slice none 0 0] 25)
          have ldge := hBW.size
          have lab := lcR.lt
          replace hBW := hBW.trans (bb.mono hBW.size)
          replace khp := khp.later bb
          replace sa := sa.later bb
          replace sm := sm.later bb
          replace lc0 := below_cell bb lc0
          replace lc1 := below_cell bb lc1
          replace lcR := below_row bb lcR
          clear bb
          have ld0 : (w2_8.alloc (.cells #[.bool false, .slice none 0 0] 25)).cell? ⟨w2_8.heap.size, 0, none⟩ = some (.bool false) := by go_simp
          have ld1 : (w2_8.alloc (.cells #[.bool false, .slice none 0 0] 25)).cell? ⟨w2_8.heap.size, 1, none⟩ = some (.slice none 0 0) := by go_simp
          have ldR : Row (w2_8.alloc (.cells #[.bool false, .slice none 0 0] 25)) w2_8.heap.size := row_new w2_8 _ 25
          clear hHeld
          generalize (w2_8.alloc (.cells #[.bool false, .slice none 0 0] 25)) = w2_8_9 at hBW ld0 ld1 ldR lc0 lc1 lcR khp sa sm ⊢
          generalize w2_8.heap.size = d at ldge ld0 ld1 ldR lab ⊢
          refine hK.out _ _ (kp2 (W := w41) hBW ⟨Qq00, Qq01, hB⟩) ?_
          intro hHeld
          clear hK K
          try simp only [Act.put, List.setIfInBounds_toArray, List.set_cons_zero, List.set_cons_succ]
          refine wpAnyH_ready (rs := [3]) (by kernel_rfl) (by simp) ?_
          refine consT rfl (fun K hK => ?_) ?_
          · skip
            go_simp
            refine Calls.mono (HF.out _ pm sa sm) ?_
            rintro e w2_8_9_3 ⟨aq, ar, rfl, hF, hG⟩
            have bb := hF.below
            replace hF := hF.back hBW
            replace hG := hG.back hBW
            replace hBW := hBW.trans (bb.mono hBW.size)
            replace khp := khp.later bb
            replace sa := sa.later bb
            replace sm := sm.later bb
            replace lc0 := below_cell bb lc0
            replace lc1 := below_cell bb lc1
            replace lcR := below_row bb lcR
            replace ld0 := below_cell bb ld0
            replace ld1 := below_cell bb ld1
            replace ldR := below_row bb ldR
            clear bb
            go_wp2_with fail
            refine hK.out _ _ (kp2 (W := w41) hBW ⟨Qq00, Qq01, hB⟩) ?_
            clear hHeld
            intro hHeld
            clear hK K
            try simp only [Act.put, List.setIfInBounds_toArray, List.set_cons_zero, List.set_cons_succ]
            refine take' 4 (v := ?_) rfl (by kernel_rfl) (by kernel_rfl) (by kernel_rfl) (fun _ _ _ h => h) (Or.inl ⟨by rfl, ?_⟩) (by assumption) ?_
            rotate_left
            · intro w9 hSw
              go_simp
              first | done | with_reducible rfl
            simp only [Act.put, List.setIfInBounds_toArray, List.set_cons_zero, List.set_cons_succ]
            refine take' 5 (v := ?_) rfl (by kernel_rfl) (by kernel_rfl) (by kernel_rfl) (fun _ _ _ h => h) (Or.inl ⟨by rfl, ?_⟩) (by assumption) ?_
            rotate_left
            · intro w9 hSw
              go_simp
              first | done | with_reducible rfl
            simp only [Act.put, List.setIfInBounds_toArray, List.set_cons_zero, List.set_cons_succ]
            refine take' 6 (v := ?_) rfl (by kernel_rfl) (by kernel_rfl) (by kernel_rfl) (fun _ _ _ h => h) (Or.inl ⟨by rfl, ?_⟩) (by assumption) ?_
            rotate_left
            · intro w9 hSw
              go_simp
              first | done | with_reducible rfl
            simp only [Act.put, List.setIfInBounds_toArray, List.set_cons_zero, List.set_cons_succ]
            refine take' 7 (v := ?_) rfl (by kernel_rfl) (by kernel_rfl) (by kernel_rfl) (fun _ _ _ h => h) (Or.inl ⟨by rfl, ?_⟩) (by assumption) ?_
            rotate_left
            · intro w9 hSw
              go_simp
              first | done | with_reducible rfl
            simp only [Act.put, List.setIfInBounds_toArray, List.set_cons_zero, List.set_cons_succ]
            have lcd : c ≠ d := by omega
            clear lab
            refine wpAnyH_ready (rs := [10]) (by kernel_rfl) (by simp) ?_
            refine cons' rfl (fun K hK => ?_)
            have lf := fun o => lcR.frozen o
            have X := stored2 (u0 := .bool (ng Z)) (u1 := .slice aq (ln (am Z)) (ln (am Z))) lc0 lc1 ld0 ld1 ldR hBW lcge lcd hF
            go_simp
            clear lc0 lc1 ld0 ld1 lf lcR ldR hHeld hBW hF
            generalize ((w2_8_9_3.setCell ⟨c, 0, none⟩ (.bool (ng Z))).setCell ⟨c, 1, none⟩ (.slice aq (ln (am Z)) (ln (am Z)))) = wl1 at X ⊢
            obtain ⟨lc0, lc1, ld0, ld1, ldR, hBW, hF⟩ := X
            have lcR := ldR
            refine hK.out _ _ (kp2 (W := w41) hBW ⟨Qq00, Qq01, hB⟩) ?_
            intro hHeld
            clear hK K
            try simp only [Act.put, List.setIfInBounds_toArray, List.set_cons_zero, List.set_cons_succ]
            refine wpAnyH_ready (rs := [11]) (by kernel_rfl) (by simp) ?_
            refine cons' rfl (fun K hK => ?_)
            have lf := fun o => ldR.frozen o
            have X := stored2 (u0 := .bool (ng G)) (u1 := .slice ar (ln (am G)) (ln (am G))) ld0 ld1 lc0 lc1 lcR hBW ldge lcd.symm hF
            go_simp
            clear ld0 ld1 lc0 lc1 lf ldR lcR hHeld hBW hF
            generalize ((wl1.setCell ⟨d, 0, none⟩ (.bool (ng G))).setCell ⟨d, 1, none⟩ (.slice ar (ln (am G)) (ln (am G)))) = wl2 at X ⊢
            obtain ⟨ld0, ld1, lc0, lc1, lcR, hBW, hF⟩ := X
            have ldR := lcR
            refine hK.out _ _ (kp2 (W := w41) hBW ⟨Qq00, Qq01, hB⟩) ?_
            intro hHeld
            clear hK K
            try simp only [Act.put, List.setIfInBounds_toArray, List.set_cons_zero, List.set_cons_succ]
            refine take' 12 (v := ?_) rfl (by kernel_rfl) (by kernel_rfl) (by kernel_rfl) (fun _ _ _ h => h) (Or.inl ⟨by rfl, ?_⟩) (by assumption) ?_
            rotate_left
            · intro w9 hSw
              go_simp
              first | done | with_reducible rfl
            simp only [Act.put, List.setIfInBounds_toArray, List.set_cons_zero, List.set_cons_succ]
            refine wpAnyH_done (by kernel_rfl) ?_ _
            go_wp2_with fail
            go_meet
            exact ⟨c, aq, rfl, lcge, lc0, lc1, hF, hBW⟩
          exact AllReadyH.nil
        exact AllReadyH.nil
      refine consT rfl (fun K hK => ?_) ?_
      · skip
        go_simp
        have bb := below_alloc (w := w2) (.cells #[.bool false, .slice none 0 0] 25)
        have ldge := hBW.size
        replace hBW := hBW.trans (bb.mono hBW.size)
        replace khp := khp.later bb
        replace sa := sa.later bb
        replace sm := sm.later bb
        clear bb
        have ld0 : (w2.alloc (.cells #[.bool false, .slice none 0 0] 25)).cell? ⟨w2.heap.size, 0, none⟩ = some (.bool false) := by go_simp
        have ld1 : (w2.alloc (.cells #[.bool false, .slice none 0 0] 25)).cell? ⟨w2.heap.size, 1, none⟩ = some (.slice none 0 0) := by go_simp
        have ldR : Row (w2.alloc (.cells #[.bool false, .slice none 0 0] 25)) w2.heap.size := row_new w2 _ 25
        clear hHeld
        generalize (w2.alloc (.cells #[.bool false, .slice none 0 0] 25)) = w2_9 at hBW ld0 ld1 ldR khp sa sm ⊢
        generalize w2.heap.size = d at ldge ld0 ld1 ldR ⊢
        refine hK.out _ _ (kp2 (W := w41) hBW ⟨Qq00, Qq01, hB⟩) ?_
        intro hHeld
        clear hK K
        try simp only [Act.put, List.setIfInBounds_toArray, List.set_cons_zero, List.set_cons_succ]
        refine wpAnyH_ready (rs := [3, 8]) (by kernel_rfl) (by simp) ?_
        refine consT rfl (fun K hK => ?_) ?_
        · skip
          go_simp
          refine Calls.mono (HF.out _ pm sa sm) ?_
          rintro e w2_9_3 ⟨aq, ar, rfl, hF, hG⟩
          have bb := hF.below
          replace hF := hF.back hBW
          replace hG := hG.back hBW
          replace hBW := hBW.trans (bb.mono hBW.size)
          replace khp := khp.later bb
          replace sa := sa.later bb
          replace sm := sm.later bb
          replace ld0 := below_cell bb ld0
          replace ld1 := below_cell bb ld1
          replace ldR := below_row bb ldR
          clear bb
          go_wp2_with fail
          refine hK.out _ _ (kp2 (W := w41) hBW ⟨Qq00, Qq01, hB⟩) ?_
          clear hHeld
          intro hHeld
          clear hK K
          try simp only [Act.put, List.setIfInBounds_toArray, List.set_cons_zero, List.set_cons_succ]
          refine take' 4 (v := ?_) rfl (by kernel_rfl) (by kernel_rfl) (by kernel_rfl) (fun _ _ _ h => h) (Or.inl ⟨by rfl, ?_⟩) (by assumption) ?_
          rotate_left
          · intro w9 hSw
            go_simp
            first | done | with_reducible rfl
          simp only [Act.put, List.setIfInBounds_toArray, List.set_cons_zero, List.set_cons_succ]
          refine take' 5 (v := ?_) rfl (by kernel_rfl) (by kernel_rfl) (by kernel_rfl) (fun _ _ _ h => h) (Or.inl ⟨by rfl, ?_⟩) (by assumption) ?_
          rotate_left
          · intro w9 hSw
            go_simp
            first | done | with_reducible rfl
          simp only [Act.put, List.setIfInBounds_toArray, List.set_cons_zero, List.set_cons_succ]
          refine take' 6 (v := ?_) rfl (by kernel_rfl) (by kernel_rfl) (by kernel_rfl) (fun _ _ _ h => h) (Or.inl ⟨by rfl, ?_⟩) (by assumption) ?_
          rotate_left
          · intro w9 hSw
            go_simp
            first | done | with_reducible rfl
          simp only [Act.put, List.setIfInBounds_toArray, List.set_cons_zero, List.set_cons_succ]
          refine take' 7 (v := ?_) rfl (by kernel_rfl) (by kernel_rfl) (by kernel_rfl) (fun _ _ _ h => h) (Or.inl ⟨by rfl, ?_⟩) (by assumption) ?_
          rotate_left
          · intro w9 hSw
            go_simp
            first | done | with_reducible rfl
          simp only [Act.put, List.setIfInBounds_toArray, List.set_cons_zero, List.set_cons_succ]
          refine wpAnyH_ready (rs := [8]) (by kernel_rfl) (by simp) ?_
          refine consT rfl (fun K hK => ?_) ?_
          · skip
            go_simp
            have bb := below_alloc (w := w2_9_3) (.cells #[.bool false, .slice none 0 0] 25)
            have lcge := hBW.size
            have lab := ldR.lt
            replace hBW := hBW.trans (bb.mono hBW.size)
            replace khp := khp.later bb
            replace sa := sa.later bb
            replace sm := sm.later bb
            replace hF := hF.later bb
            replace hG := hG.later bb
            replace ld0 := below_cell bb ld0
            replace ld1 := below_cell bb ld1
            replace ldR := below_row bb ldR
            clear bb
            have lc0 : (w2_9_3.alloc (.cells #[.bool false, .slice none 0 0] 25)).cell? ⟨w2_9_3.heap.size, 0, none⟩ = some (.bool false) := by go_simp
            have lc1 : (w2_9_3.alloc (.cells #[.bool false, .slice none 0 0] 25)).cell? ⟨w2_9_3.heap.size, 1, none⟩ = some (.slice none 0 0) := by go_simp
            have lcR : Row (w2_9_3.alloc (.cells #[.bool false, .slice none 0 0] 25)) w2_9_3.heap.size := row_new w2_9_3 _ 25
            clear hHeld
            generalize (w2_9_3.alloc (.cells #[.bool false, .slice none 0 0] 25)) = w2_9_3_8 at hBW lc0 lc1 lcR ld0 ld1 ldR khp sa sm hF hG ⊢
            generalize w2_9_3.heap.size = c at lcge lc0 lc1 lcR lab ⊢
            refine hK.out _ _ (kp2 (W := w41) hBW ⟨Qq00, Qq01, hB⟩) ?_
            intro hHeld
            clear hK K
            try simp only [Act.put, List.setIfInBounds_toArray, List.set_cons_zero, List.set_cons_succ]
            have lcd : c ≠ d := by omega
            clear lab
            refine wpAnyH_ready (rs := [10]) (by kernel_rfl) (by simp) ?_
            refine cons' rfl (fun K hK => ?_)
            have lf := fun o => lcR.frozen o
            have X := stored2 (u0 := .bool (ng Z)) (u1 := .slice aq (ln (am Z)) (ln (am Z))) lc0 lc1 ld0 ld1 ldR hBW lcge lcd hF
            go_simp
            clear lc0 lc1 ld0 ld1 lf lcR ldR hHeld hBW hF
            generalize ((w2_9_3_8.setCell ⟨c, 0, none⟩ (.bool (ng Z))).setCell ⟨c, 1, none⟩ (.slice aq (ln (am Z)) (ln (am Z)))) = wl1 at X ⊢
            obtain ⟨lc0, lc1, ld0, ld1, ldR, hBW, hF⟩ := X
            have lcR := ldR
            refine hK.out _ _ (kp2 (W := w41) hBW ⟨Qq00, Qq01, hB⟩) ?_
            intro hHeld
            clear hK K
            try simp only [Act.put, List.setIfInBounds_toArray, List.set_cons_zero, List.set_cons_succ]
            refine wpAnyH_ready (rs := [11]) (by kernel_rfl) (by simp) ?_
            refine cons' rfl (fun K hK => ?_)
            have lf := fun o => ldR.frozen o
            have X := stored2 (u0 := .bool (ng G)) (u1 := .slice ar (ln (am G)) (ln (am G))) ld0 ld1 lc0 lc1 lcR hBW ldge lcd.symm hF
            go_simp
            clear ld0 ld1 lc0 lc1 lf ldR lcR hHeld hBW hF
            generalize ((wl1.setCell ⟨d, 0, none⟩ (.bool (ng G))).setCell ⟨d, 1, none⟩ (.slice ar (ln (am G)) (ln (am G)))) = wl2 at X ⊢
            obtain ⟨ld0, ld1, lc0, lc1, lcR, hBW, hF⟩ := X
            have ldR := lcR
            refine hK.out _ _ (kp2 (W := w41) hBW ⟨Qq00, Qq01, hB⟩) ?_
            intro hHeld
            clear hK K
            try simp only [Act.put, List.setIfInBounds_toArray, List.set_cons_zero, List.set_cons_succ]
            refine take' 12 (v := ?_) rfl (by kernel_rfl) (by kernel_rfl) (by kernel_rfl) (fun _ _ _ h => h) (Or.inl ⟨by rfl, ?_⟩) (by assumption) ?_
            rotate_left
            · intro w9 hSw
              go_simp
              first | done | with_reducible rfl
            simp only [Act.put, List.setIfInBounds_toArray, List.set_cons_zero, List.set_cons_succ]
            refine wpAnyH_done (by kernel_rfl) ?_ _
            go_wp2_with fail
            go_meet
            exact ⟨c, aq, rfl, lcge, lc0, lc1, hF, hBW⟩
          exact AllReadyH.nil
        refine consT rfl (fun K hK => ?_) ?_
        · skip
          go_simp
          have bb := below_alloc (w := w2_9) (.cells #[.bool false, .slice none 0 0] 25)
          have lcge := hBW.size
          have lab := ldR.lt
          replace hBW := hBW.trans (bb.mono hBW.size)
          replace khp := khp.later bb
          replace sa := sa.later bb
          replace sm := sm.later bb
          replace ld0 := below_cell bb ld0
          replace ld1 := below_cell bb ld1
          replace ldR := below_row bb ldR
          clear bb
          have lc0 : (w2_9.alloc (.cells #[.bool false, .slice none 0 0] 25)).cell? ⟨w2_9.heap.size, 0, none⟩ = some (.bool false) := by go_simp
          have lc1 : (w2_9.alloc (.cells #[.bool false, .slice none 0 0] 25)).cell? ⟨w2_9.heap.size, 1, none⟩ = some (.slice none 0 0) := by go_simp
          have lcR : Row (w2_9.alloc (.cells #[.bool false, .slice none 0 0] 25)) w2_9.heap.size := row_new w2_9 _ 25
          clear hHeld
          generalize (w2_9.alloc (.cells #[.bool false, .slice none 0 0] 25)) = w2_9_8 at hBW lc0 lc1 lcR ld0 ld1 ldR khp sa sm ⊢
          generalize w2_9.heap.size = c at lcge lc0 lc1 lcR lab ⊢
          refine hK.out _ _ (kp2 (W := w41) hBW ⟨Qq00, Qq01, hB⟩) ?_
          intro hHeld
          clear hK K
          try simp only [Act.put, List.setIfInBounds_toArray, List.set_cons_zero, List.set_cons_succ]
          refine wpAnyH_ready (rs := [3]) (by kernel_rfl) (by simp) ?_
          refine consT rfl (fun K hK => ?_) ?_
          · skip
            go_simp
            refine Calls.mono (HF.out _ pm sa sm) ?_
            rintro e w2_9_8_3 ⟨aq, ar, rfl, hF, hG⟩
            have bb := hF.below
            replace hF := hF.back hBW
            replace hG := hG.back hBW
            replace hBW := hBW.trans (bb.mono hBW.size)
            replace khp := khp.later bb
            replace sa := sa.later bb
            replace sm := sm.later bb
            replace lc0 := below_cell bb lc0
            replace lc1 := below_cell bb lc1
            replace lcR := below_row bb lcR
            replace ld0 := below_cell bb ld0
            replace ld1 := below_cell bb ld1
            replace ldR := below_row bb ldR
            clear bb
            go_wp2_with fail
            refine hK.out _ _ (kp2 (W := w41) hBW ⟨Qq00, Qq01, hB⟩) ?_
            clear hHeld
            intro hHeld
            clear hK K
            try simp only [Act.put, List.setIfInBounds_toArray, List.set_cons_zero, List.set_cons_succ]
            refine take' 4 (v := ?_) rfl (by kernel_rfl) (by kernel_rfl) (by kernel_rfl) (fun _ _ _ h => h) (Or.inl ⟨by rfl, ?_⟩) (by assumption) ?_
            rotate_left
            · intro w9 hSw
              go_simp
              first | done | with_reducible rfl
            simp only [Act.put, List.setIfInBounds_toArray, List.set_cons_zero, List.set_cons_succ]
            refine take' 5 (v := ?_) rfl (by kernel_rfl) (by kernel_rfl) (by kernel_rfl) (fun _ _ _ h => h) (Or.inl ⟨by rfl, ?_⟩) (by assumption) ?_
            rotate_left
            · intro w9 hSw
              go_simp
              first | done | with_reducible rfl
            simp only [Act.put, List.setIfInBounds_toArray, List.set_cons_zero, List.set_cons_succ]
            refine take' 6 (v := ?_) rfl (by kernel_rfl) (by kernel_rfl) (by kernel_rfl) (fun _ _ _ h => h) (Or.inl ⟨by rfl, ?_⟩) (by assumption) ?_
            rotate_left
            · intro w9 hSw
              go_simp
              first | done | with_reducible rfl
            simp only [Act.put, List.setIfInBounds_toArray, List.set_cons_zero, List.set_cons_succ]
            refine take' 7 (v := ?_) rfl (by kernel_rfl) (by kernel_rfl) (by kernel_rfl) (fun _ _ _ h => h) (Or.inl ⟨by rfl, ?_⟩) (by assumption) ?_
            rotate_left
            · intro w9 hSw
              go_simp
              first | done | with_reducible rfl
            simp only [Act.put, List.setIfInBounds_toArray, List.set_cons_zero, List.set_cons_succ]
            have lcd : c ≠ d := by omega
            clear lab
            refine wpAnyH_ready (rs := [10]) (by kernel_rfl) (by simp) ?_
            refine cons' rfl (fun K hK => ?_)
            have lf := fun o => lcR.frozen o
            have X := stored2 (u0 := .bool (ng Z)) (u1 := .slice aq (ln (am Z)) (ln (am Z))) lc0 lc1 ld0 ld1 ldR hBW lcge lcd hF
            go_simp
            clear lc0 lc1 ld0 ld1 lf lcR ldR hHeld hBW hF
            generalize ((w2_9_8_3.setCell ⟨c, 0, none⟩ (.bool (ng Z))).setCell ⟨c, 1, none⟩ (.slice aq (ln (am Z)) (ln (am Z)))) = wl1 at X ⊢
            obtain ⟨lc0, lc1, ld0, ld1, ldR, hBW, hF⟩ := X
            have lcR := ldR
            refine hK.out _ _ (kp2 (W := w41) hBW ⟨Qq00, Qq01, hB⟩) ?_
            intro hHeld
            clear hK K
            try simp only [Act.put, List.setIfInBounds_toArray, List.set_cons_zero, List.set_cons_succ]
            refine wpAnyH_ready (rs := [11]) (by kernel_rfl) (by simp) ?_
            refine cons' rfl (fun K hK => ?_)
            have lf := fun o => ldR.frozen o
            have X := stored2 (u0 := .bool (ng G)) (u1 := .slice ar (ln (am G)) (ln (am G))) ld0 ld1 lc0 lc1 lcR hBW ldge lcd.symm hF
            go_simp
            clear ld0 ld1 lc0 lc1 lf ldR lcR hHeld hBW hF
            generalize ((wl1.setCell ⟨d, 0, none⟩ (.bool (ng G))).setCell ⟨d, 1, none⟩ (.slice ar (ln (am G)) (ln (am G)))) = wl2 at X ⊢
            obtain ⟨ld0, ld1, lc0, lc1, lcR, hBW, hF⟩ := X
            have ldR := lcR
            refine hK.out _ _ (kp2 (W := w41) hBW ⟨Qq00, Qq01, hB⟩) ?_
            intro hHeld
            clear hK K
            try simp only [Act.put, List.setIfInBounds_toArray, List.set_cons_zero, List.set_cons_succ]
            refine take' 12 (v := ?_) rfl (by kernel_rfl) (by kernel_rfl) (by kernel_rfl) (fun _ _ _ h => h) (Or.inl ⟨by rfl, ?_⟩) (by assumption) ?_
            rotate_left
            · intro w9 hSw
              go_simp
              first | done | with_reducible rfl
            simp only [Act.put, List.setIfInBounds_toArray, List.set_cons_zero, List.set_cons_succ]
            refine wpAnyH_done (by kernel_rfl) ?_ _
            go_wp2_with fail
            go_meet
            exact ⟨c, aq, rfl, lcge, lc0, lc1, hF, hBW⟩
          exact AllReadyH.nil
        exact AllReadyH.nil
      exact AllReadyH.nil
    refine consT rfl (fun K hK => ?_) ?_
    · skip
      go_simp
      have bb := below_alloc (w := w0) (.cells #[.bool false, .slice none 0 0] 25)
      have lcge := hBW.size
      replace hBW := hBW.trans (bb.mono hBW.size)
      replace khp := khp.later bb
      replace sa := sa.later bb
      clear bb
      have lc0 : (w0.alloc (.cells #[.bool false, .slice none 0 0] 25)).cell? ⟨w0.heap.size, 0, none⟩ = some (.bool false) := by go_simp
      have lc1 : (w0.alloc (.cells #[.bool false, .slice none 0 0] 25)).cell? ⟨w0.heap.size, 1, none⟩ = some (.slice none 0 0) := by go_simp
      have lcR : Row (w0.alloc (.cells #[.bool false, .slice none 0 0] 25)) w0.heap.size := row_new w0 _ 25
      clear hHeld
      generalize (w0.alloc (.cells #[.bool false, .slice none 0 0] 25)) = w8 at hBW lc0 lc1 lcR khp sa ⊢
      generalize w0.heap.size = c at lcge lc0 lc1 lcR ⊢
      refine hK.out _ _ (kp2 (W := w41) hBW ⟨Qq00, Qq01, hB⟩) ?_
      intro hHeld
      clear hK K
      try simp only [Act.put, List.setIfInBounds_toArray, List.set_cons_zero, List.set_cons_succ]
      refine wpAnyH_ready (rs := [2, 9]) (by kernel_rfl) (by simp) ?_
      refine consT rfl (fun K hK => ?_) ?_
      · skip
        go_simp
        refine Calls.mono (made_f p41 P _ (by omega) khp) ?_
        rintro e w8_2 ⟨pm, rfl, hm1⟩
        have bb := hm1.below
        have sm := hm1.seg
        clear hm1
        replace hBW := hBW.trans (bb.mono hBW.size)
        replace khp := khp.later bb
        replace sa := sa.later bb
        replace lc0 := below_cell bb lc0
        replace lc1 := below_cell bb lc1
        replace lcR := below_row bb lcR
        clear bb
        go_wp2_with fail
        refine hK.out _ _ (kp2 (W := w41) hBW ⟨Qq00, Qq01, hB⟩) ?_
        clear hHeld
        intro hHeld
        clear hK K
        try simp only [Act.put, List.setIfInBounds_toArray, List.set_cons_zero, List.set_cons_succ]
        refine wpAnyH_ready (rs := [3, 9]) (by kernel_rfl) (by simp) ?_
        refine consT rfl (fun K hK => ?_) ?_
        · skip
          go_simp
          refine Calls.mono (HF.out _ pm sa sm) ?_
          rintro e w8_2_3 ⟨aq, ar, rfl, hF, hG⟩
          have bb := hF.below
          replace hF := hF.back hBW
          replace hG := hG.back hBW
          replace hBW := hBW.trans (bb.mono hBW.size)
          replace khp := khp.later bb
          replace sa := sa.later bb
          replace sm := sm.later bb
          replace lc0 := below_cell bb lc0
          replace lc1 := below_cell bb lc1
          replace lcR := below_row bb lcR
          clear bb
          go_wp2_with fail
          refine hK.out _ _ (kp2 (W := w41) hBW ⟨Qq00, Qq01, hB⟩) ?_
          clear hHeld
          intro hHeld
          clear hK K
          try simp only [Act.put, List.setIfInBounds_toArray, List.set_cons_zero, List.set_cons_succ]
          refine take' 4 (v := ?_) rfl (by kernel_rfl) (by kernel_rfl) (by kernel_rfl) (fun _ _ _ h => h) (Or.inl ⟨by rfl, ?_⟩) (by assumption) ?_
          rotate_left
          · intro w9 hSw
            go_simp
            first | done | with_reducible rfl
          simp only [Act.put, List.setIfInBounds_toArray, List.set_cons_zero, List.set_cons_succ]
          refine take' 5 (v := ?_) rfl (by kernel_rfl) (by kernel_rfl) (by kernel_rfl) (fun _ _ _ h => h) (Or.inl ⟨by rfl, ?_⟩) (by assumption) ?_
          rotate_left
          · intro w9 hSw
            go_simp
            first | done | with_reducible rfl
          simp only [Act.put, List.setIfInBounds_toArray, List.set_cons_zero, List.set_cons_succ]
          refine take' 6 (v := ?_) rfl (by kernel_rfl) (by kernel_rfl) (by kernel_rfl) (fun _ _ _ h => h) (Or.inl ⟨by rfl, ?_⟩) (by assumption) ?_
          rotate_left
          · intro w9 hSw
            go_simp
            first | done | with_reducible rfl
          simp only [Act.put, List.setIfInBounds_toArray, List.set_cons_zero, List.set_cons_succ]
          refine take' 7 (v := ?_) rfl (by kernel_rfl) (by kernel_rfl) (by kernel_rfl) (fun _ _ _ h => h) (Or.inl ⟨by rfl, ?_⟩) (by assumption) ?_
          rotate_left
          · intro w9 hSw
            go_simp
            first | done | with_reducible rfl
          simp only [Act.put, List.setIfInBounds_toArray, List.set_cons_zero, List.set_cons_succ]
          refine wpAnyH_ready (rs := [9]) (by kernel_rfl) (by simp) ?_
          refine consT rfl (fun K hK => ?_) ?_
          · skip
            go_simp
            have bb := below_alloc (w := w8_2_3) (.cells #[.bool false, .slice none 0 0] 25)
            have ldge := hBW.size
            have lab := lcR.lt
            replace hBW := hBW.trans (bb.mono hBW.size)
            replace khp := khp.later bb
            replace sa := sa.later bb
            replace sm := sm.later bb
            replace hF := hF.later bb
            replace hG := hG.later bb
            replace lc0 := below_cell bb lc0
            replace lc1 := below_cell bb lc1
            replace lcR := below_row bb lcR
            clear bb
            have ld0 : (w8_2_3.alloc (.cells #[.bool false, .slice none 0 0] 25)).cell? ⟨w8_2_3.heap.size, 0, none⟩ = some (.bool false) := by go_simp
            have ld1 : (w8_2_3.alloc (.cells #[.bool false, .slice none 0 0] 25)).cell? ⟨w8_2_3.heap.size, 1, none⟩ = some (.slice none 0 0) := by go_simp
            have ldR : Row (w8_2_3.alloc (.cells #[.bool false, .slice none 0 0] 25)) w8_2_3.heap.size := row_new w8_2_3 _ 25
            clear hHeld
            generalize (w8_2_3.alloc (.cells #[.bool false, .slice none 0 0] 25)) = w8_2_3_9 at hBW ld0 ld1 ldR lc0 lc1 lcR khp sa sm hF hG ⊢
            generalize w8_2_3.heap.size = d at ldge ld0 ld1 ldR lab ⊢
            refine hK.out _ _ (kp2 (W := w41) hBW ⟨Qq00, Qq01, hB⟩) ?_
            intro hHeld
            clear hK K
            try simp only [Act.put, List.setIfInBounds_toArray, List.set_cons_zero, List.set_cons_succ]
            have lcd : c ≠ d := by omega
            clear lab
            refine wpAnyH_ready (rs := [10]) (by kernel_rfl) (by simp) ?_
            refine cons' rfl (fun K hK => ?_)
            have lf := fun o => lcR.frozen o
            have X := stored2 (u0 := .bool (ng Z)) (u1 := .slice aq (ln (am Z)) (ln (am Z))) lc0 lc1 ld0 ld1 ldR hBW lcge lcd hF
            go_simp
            clear lc0 lc1 ld0 ld1 lf lcR ldR hHeld hBW hF
            generalize ((w8_2_3_9.setCell ⟨c, 0, none⟩ (.bool (ng Z))).setCell ⟨c, 1, none⟩ (.slice aq (ln (am Z)) (ln (am Z)))) = wl1 at X ⊢
            obtain ⟨lc0, lc1, ld0, ld1, ldR, hBW, hF⟩ := X
            have lcR := ldR
            refine hK.out _ _ (kp2 (W := w41) hBW ⟨Qq00, Qq01, hB⟩) ?_
            intro hHeld
            clear hK K
            try simp only [Act.put, List.setIfInBounds_toArray, List.set_cons_zero, List.set_cons_succ]
            refine wpAnyH_ready (rs := [11]) (by kernel_rfl) (by simp) ?_
            refine cons' rfl (fun K hK => ?_)
            have lf := fun o => ldR.frozen o
            have X := stored2 (u0 := .bool (ng G)) (u1 := .slice ar (ln (am G)) (ln (am G))) ld0 ld1 lc0 lc1 lcR hBW ldge lcd.symm hF
            go_simp
            clear ld0 ld1 lc0 lc1 lf ldR lcR hHeld hBW hF
            generalize ((wl1.setCell ⟨d, 0, none⟩ (.bool (ng G))).setCell ⟨d, 1, none⟩ (.slice ar (ln (am G)) (ln (am G)))) = wl2 at X ⊢
            obtain ⟨ld0, ld1, lc0, lc1, lcR, hBW, hF⟩ := X
            have ldR := lcR
            refine hK.out _ _ (kp2 (W := w41) hBW ⟨Qq00, Qq01, hB⟩) ?_
            intro hHeld
            clear hK K
            try simp only [Act.put, List.setIfInBounds_toArray, List.set_cons_zero, List.set_cons_succ]
            refine take' 12 (v := ?_) rfl (by kernel_rfl) (by kernel_rfl) (by kernel_rfl) (fun _ _ _ h => h) (Or.inl ⟨by rfl, ?_⟩) (by assumption) ?_
            rotate_left
            · intro w9 hSw
              go_simp
              first | done | with_reducible rfl
            simp only [Act.put, List.setIfInBounds_toArray, List.set_cons_zero, List.set_cons_succ]
            refine wpAnyH_done (by kernel_rfl) ?_ _
            go_wp2_with fail
            go_meet
            exact ⟨c, aq, rfl, lcge, lc0, lc1, hF, hBW⟩
          exact AllReadyH.nil
        refine consT rfl (fun K hK => ?_) ?_
        · skip
          go_simp
          have bb := below_alloc (w := w8_2) (.cells #[.bool false, .slice none 0 0] 25)
          have ldge := hBW.size
          have lab := lcR.lt
          replace hBW := hBW.trans (bb.mono hBW.size)
          replace khp := khp.later bb
          replace sa := sa.later bb
          replace sm := sm.later bb
          replace lc0 := below_cell bb lc0
          replace lc1 := below_cell bb lc1
          replace lcR := below_row bb lcR
          clear bb
          have ld0 : (w8_2.alloc (.cells #[.bool false, .slice none 0 0] 25)).cell? ⟨w8_2.heap.size, 0, none⟩ = some (.bool false) := by go_simp
          have ld1 : (w8_2.alloc (.cells #[.bool false, .slice none 0 0] 25)).cell? ⟨w8_2.heap.size, 1, none⟩ = some (.slice none 0 0) := by go_simp
          have ldR : Row (w8_2.alloc (.cells #[.bool false, .slice none 0 0] 25)) w8_2.heap.size := row_new w8_2 _ 25
          clear hHeld
          generalize (w8_2.alloc (.cells #[.bool false, .slice none 0 0] 25)) = w8_2_9 at hBW ld0 ld1 ldR lc0 lc1 lcR khp sa sm ⊢
          generalize w8_2.heap.size = d at ldge ld0 ld1 ldR lab ⊢
          refine hK.out _ _ (kp2 (W := w41) hBW ⟨Qq00, Qq01, hB⟩) ?_
          intro hHeld
          clear hK K
          try simp only [Act.put, List.setIfInBounds_toArray, List.set_cons_zero, List.set_cons_succ]
          refine wpAnyH_ready (rs := [3]) (by kernel_rfl) (by simp) ?_
          refine consT rfl (fun K hK => ?_) ?_
          · skip
            go_simp
            refine Calls.mono (HF.out _ pm sa sm) ?_
            rintro e w8_2_9_3 ⟨aq, ar, rfl, hF, hG⟩
            have bb := hF.below
            replace hF := hF.back hBW
            replace hG := hG.back hBW
            replace hBW := hBW.trans (bb.mono hBW.size)
            replace khp := khp.later bb
            replace sa := sa.later bb
            replace sm := sm.later bb
            replace lc0 := below_cell bb lc0
            replace lc1 := below_cell bb lc1
            replace lcR := below_row bb lcR
            replace ld0 := below_cell bb ld0
            replace ld1 := below_cell bb ld1
            replace ldR := below_row bb ldR
            clear bb
            go_wp2_with fail
            refine hK.out _ _ (kp2 (W := w41) hBW ⟨Qq00, Qq01, hB⟩) ?_
            clear hHeld
            intro hHeld
            clear hK K
            try simp only [Act.put, List.setIfInBounds_toArray, List.set_cons_zero, List.set_cons_succ]
            refine take' 4 (v := ?_) rfl (by kernel_rfl) (by kernel_rfl) (by kernel_rfl) (fun _ _ _ h => h) (Or.inl ⟨by rfl, ?_⟩) (by assumption) ?_
            rotate_left
            · intro w9 hSw
              go_simp
              first | done | with_reducible rfl
            simp only [Act.put, List.setIfInBounds_toArray, List.set_cons_zero, List.set_cons_succ]
            refine take' 5 (v := ?_) rfl (by kernel_rfl) (by kernel_rfl) (by kernel_rfl) (fun _ _ _ h => h) (Or.inl ⟨by rfl, ?_⟩) (by assumption) ?_
            rotate_left
            · intro w9 hSw
              go_simp
              first | done | with_reducible rfl
            simp only [Act.put, List.setIfInBounds_toArray, List.set_cons_zero, List.set_cons_succ]
            refine take' 6 (v := ?_) rfl (by kernel_rfl) (by kernel_rfl) (by kernel_rfl) (fun _ _ _ h => h) (Or.inl ⟨by rfl, ?_⟩) (by assumption) ?_
            rotate_left
            · intro w9 hSw
              go_simp
              first | done | with_reducible rfl
            simp only [Act.put, List.setIfInBounds_toArray, List.set_cons_zero, List.set_cons_succ]
            refine take' 7 (v := ?_) rfl (by kernel_rfl) (by kernel_rfl) (by kernel_rfl) (fun _ _ _ h => h) (Or.inl ⟨by rfl, ?_⟩) (by assumption) ?_
            rotate_left
            · intro w9 hSw
              go_simp
              first | done | with_reducible rfl
            simp only [Act.put, List.setIfInBounds_toArray, List.set_cons_zero, List.set_cons_succ]
            have lcd : c ≠ d := by omega
            clear lab
            refine wpAnyH_ready (rs := [10]) (by kernel_rfl) (by simp) ?_
            refine cons' rfl (fun K hK => ?_)
            have lf := fun o => lcR.frozen o
            have X := stored2 (u0 := .bool (ng Z)) (u1 := .slice aq (ln (am Z)) (ln (am Z))) lc0 lc1 ld0 ld1 ldR hBW lcge lcd hF
            go_simp
            clear lc0 lc1 ld0 ld1 lf lcR ldR hHeld hBW hF
            generalize ((w8_2_9_3.setCell ⟨c, 0, none⟩ (.bool (ng Z))).setCell ⟨c, 1, none⟩ (.slice aq (ln (am Z)) (ln (am Z)))) = wl1 at X ⊢
            obtain ⟨lc0, lc1, ld0, ld1, ldR, hBW, hF⟩ := X
            have lcR := ldR
            refine hK.out _ _ (kp2 (W := w41) hBW ⟨Qq00, Qq01, hB⟩) ?_
            intro hHeld
            clear hK K
            try simp only [Act.put, List.setIfInBounds_toArray, List.set_cons_zero, List.set_cons_succ]
            refine wpAnyH_ready (rs := [11]) (by kernel_rfl) (by simp) ?_
            refine cons' rfl (fun K hK => ?_)
            have lf := fun o => ldR.frozen o
            have X := stored2 (u0 := .bool (ng G)) (u1 := .slice ar (ln (am G)) (ln (am G))) ld0 ld1 lc0 lc1 lcR hBW ldge lcd.symm hF
            go_simp
            clear ld0 ld1 lc0 lc1 lf ldR lcR hHeld hBW hF
            generalize ((wl1.setCell ⟨d, 0, none⟩ (.bool (ng G))).setCell ⟨d, 1, none⟩ (.slice ar (ln (am G)) (ln (am G)))) = wl2 at X ⊢
            obtain ⟨ld0, ld1, lc0, lc1, lcR, hBW, hF⟩ := X
            have ldR := lcR
            refine hK.out _ _ (kp2 (W := w41) hBW ⟨Qq00, Qq01, hB⟩) ?_
            intro hHeld
            clear hK K
            try simp only [Act.put, List.setIfInBounds_toArray, List.set_cons_zero, List.set_cons_succ]
            refine take' 12 (v := ?_) rfl (by kernel_rfl) (by kernel_rfl) (by kernel_rfl) (fun _ _ _ h => h) (Or.inl ⟨by rfl, ?_⟩) (by assumption) ?_
            rotate_left
            · intro w9 hSw
              go_simp
              first | done | with_reducible rfl
            simp only [Act.put, List.setIfInBounds_toArray, List.set_cons_zero, List.set_cons_succ]
            refine wpAnyH_done (by kernel_rfl) ?_ _
            go_wp2_with fail
            go_meet
            exact ⟨c, aq, rfl, lcge, lc0, lc1, hF, hBW⟩
          exact AllReadyH.nil
        exact AllReadyH.nil
      refine consT rfl (fun K hK => ?_) ?_
      · skip
        go_simp
        have bb := below_alloc (w := w8) (.cells #[.bool false, .slice none 0 0] 25)
        have ldge := hBW.size
        have lab := lcR.lt
        replace hBW := hBW.trans (bb.mono hBW.size)
        replace khp := khp.later bb
        replace sa := sa.later bb
        replace lc0 := below_cell bb lc0
        replace lc1 := below_cell bb lc1
        replace lcR := below_row bb lcR
        clear bb
        have ld0 : (w8.alloc (.cells #[.bool false, .slice none 0 0] 25)).cell? ⟨w8.heap.size, 0, none⟩ = some (.bool false) := by go_simp
        have ld1 : (w8.alloc (.cells #[.bool false, .slice none 0 0] 25)).cell? ⟨w8.heap.size, 1, none⟩ = some (.slice none 0 0) := by go_simp
        have ldR : Row (w8.alloc (.cells #[.bool false, .slice none 0 0] 25)) w8.heap.size := row_new w8 _ 25
        clear hHeld
        generalize (w8.alloc (.cells #[.bool false, .slice none 0 0] 25)) = w8_9 at hBW ld0 ld1 ldR lc0 lc1 lcR khp sa ⊢
        generalize w8.heap.size = d at ldge ld0 ld1 ldR lab ⊢
        refine hK.out _ _ (kp2 (W := w41) hBW ⟨Qq00, Qq01, hB⟩) ?_
        intro hHeld
        clear hK K
        try simp only [Act.put, List.setIfInBounds_toArray, List.set_cons_zero, List.set_cons_succ]
        refine wpAnyH_ready (rs := [2]) (by kernel_rfl) (by simp) ?_
        refine consT rfl (fun K hK => ?_) ?_
        · skip
          go_simp
          refine Calls.mono (made_f p41 P _ (by omega) khp) ?_
          rintro e w8_9_2 ⟨pm, rfl, hm1⟩
          have bb := hm1.below
          have sm := hm1.seg
          clear hm1
          replace hBW := hBW.trans (bb.mono hBW.size)
          replace khp := khp.later bb
          replace sa := sa.later bb
          replace lc0 := below_cell bb lc0
          replace lc1 := below_cell bb lc1
          replace lcR := below_row bb lcR
          replace ld0 := below_cell bb ld0
          replace ld1 := below_cell bb ld1
          replace ldR := below_row bb ldR
          clear bb
          go_wp2_with fail
          refine hK.out _ _ (kp2 (W := w41) hBW ⟨Qq00, Qq01, hB⟩) ?_
          clear hHeld
          intro hHeld
          clear hK K
          try simp only [Act.put, List.setIfInBounds_toArray, List.set_cons_zero, List.set_cons_succ]
          refine wpAnyH_ready (rs := [3]) (by kernel_rfl) (by simp) ?_
          refine consT rfl (fun K hK => ?_) ?_
          · skip
            go_simp
            refine Calls.mono (HF.out _ pm sa sm) ?_
            rintro e w8_9_2_3 ⟨aq, ar, rfl, hF, hG⟩
            have bb := hF.below
            replace hF := hF.back hBW
            replace hG := hG.back hBW
            replace hBW := hBW.trans (bb.mono hBW.size)
            replace khp := khp.later bb
            replace sa := sa.later bb
            replace sm := sm.later bb
            replace lc0 := below_cell bb lc0
            replace lc1 := below_cell bb lc1
            replace lcR := below_row bb lcR
            replace ld0 := below_cell bb ld0
            replace ld1 := below_cell bb ld1
            replace ldR := below_row bb ldR
            clear bb
            go_wp2_with fail
            refine hK.out _ _ (kp2 (W := w41) hBW ⟨Qq00, Qq01, hB⟩) ?_
            clear hHeld
            intro hHeld
            clear hK K
            try simp only [Act.put, List.setIfInBounds_toArray, List.set_cons_zero, List.set_cons_succ]
            refine take' 4 (v := ?_) rfl (by kernel_rfl) (by kernel_rfl) (by kernel_rfl) (fun _ _ _ h => h) (Or.inl ⟨by rfl, ?_⟩) (by assumption) ?_
            rotate_left
            · intro w9 hSw
              go_simp
              first | done | with_reducible rfl
            simp only [Act.put, List.setIfInBounds_toArray, List.set_cons_zero, List.set_cons_succ]
            refine take' 5 (v := ?_) rfl (by kernel_rfl) (by kernel_rfl) (by kernel_rfl) (fun _ _ _ h => h) (Or.inl ⟨by rfl, ?_⟩) (by assumption) ?_
            rotate_left
            · intro w9 hSw
              go_simp
              first | done | with_reducible rfl
            simp only [Act.put, List.setIfInBounds_toArray, List.set_cons_zero, List.set_cons_succ]
            refine take' 6 (v := ?_) rfl (by kernel_rfl) (by kernel_rfl) (by kernel_rfl) (fun _ _ _ h => h) (Or.inl ⟨by rfl, ?_⟩) (by assumption) ?_
            rotate_left
            · intro w9 hSw
              go_simp
              first | done | with_reducible rfl
            simp only [Act.put, List.setIfInBounds_toArray, List.set_cons_zero, List.set_cons_succ]
            refine take' 7 (v := ?_) rfl (by kernel_rfl) (by kernel_rfl) (by kernel_rfl) (fun _ _ _ h => h) (Or.inl ⟨by rfl, ?_⟩) (by assumption) ?_
            rotate_left
            · intro w9 hSw
              go_simp
              first | done | with_reducible rfl
            simp only [Act.put, List.setIfInBounds_toArray, List.set_cons_zero, List.set_cons_succ]
            have lcd : c ≠ d := by omega
            clear lab
            refine wpAnyH_ready (rs := [10]) (by kernel_rfl) (by simp) ?_
            refine cons' rfl (fun K hK => ?_)
            have lf := fun o => lcR.frozen o
            have X := stored2 (u0 := .bool (ng Z)) (u1 := .slice aq (ln (am Z)) (ln (am Z))) lc0 lc1 ld0 ld1 ldR hBW lcge lcd hF
            go_simp
            clear lc0 lc1 ld0 ld1 lf lcR ldR hHeld hBW hF
            generalize ((w8_9_2_3.setCell ⟨c, 0, none⟩ (.bool (ng Z))).setCell ⟨c, 1, none⟩ (.slice aq (ln (am Z)) (ln (am Z)))) = wl1 at X ⊢
            obtain ⟨lc0, lc1, ld0, ld1, ldR, hBW, hF⟩ := X
            have lcR := ldR
            refine hK.out _ _ (kp2 (W := w41) hBW ⟨Qq00, Qq01, hB⟩) ?_
            intro hHeld
            clear hK K
            try simp only [Act.put, List.setIfInBounds_toArray, List.set_cons_zero, List.set_cons_succ]
            refine wpAnyH_ready (rs := [11]) (by kernel_rfl) (by simp) ?_
            refine cons' rfl (fun K hK => ?_)
            have lf := fun o => ldR.frozen o
            have X := stored2 (u0 := .bool (ng G)) (u1 := .slice ar (ln (am G)) (ln (am G))) ld0 ld1 lc0 lc1 lcR hBW ldge lcd.symm hF
            go_simp
            clear ld0 ld1 lc0 lc1 lf ldR lcR hHeld hBW hF
            generalize ((wl1.setCell ⟨d, 0, none⟩ (.bool (ng G))).setCell ⟨d, 1, none⟩ (.slice ar (ln (am G)) (ln (am G)))) = wl2 at X ⊢
            obtain ⟨ld0, ld1, lc0, lc1, lcR, hBW, hF⟩ := X
            have ldR := lcR
            refine hK.out _ _ (kp2 (W := w41) hBW ⟨Qq00, Qq01, hB⟩) ?_
            intro hHeld
            clear hK K
            try simp only [Act.put, List.setIfInBounds_toArray, List.set_cons_zero, List.set_cons_succ]
            refine take' 12 (v := ?_) rfl (by kernel_rfl) (by kernel_rfl) (by kernel_rfl) (fun _ _ _ h => h) (Or.inl ⟨by rfl, ?_⟩) (by assumption) ?_
            rotate_left
            · intro w9 hSw
              go_simp
              first | done | with_reducible rfl
            simp only [Act.put, List.setIfInBounds_toArray, List.set_cons_zero, List.set_cons_succ]
            refine wpAnyH_done (by kernel_rfl) ?_ _
            go_wp2_with fail
            go_meet
            exact ⟨c, aq, rfl, lcge, lc0, lc1, hF, hBW⟩
          exact AllReadyH.nil
        exact AllReadyH.nil
      exact AllReadyH.nil
    refine consT rfl (fun K hK => ?_) ?_
    · skip
      go_simp
      have bb := below_alloc (w := w0) (.cells #[.bool false, .slice none 0 0] 25)
      have ldge := hBW.size
      replace hBW := hBW.trans (bb.mono hBW.size)
      replace khp := khp.later bb
      replace sa := sa.later bb
      clear bb
      have ld0 : (w0.alloc (.cells #[.bool false, .slice none 0 0] 25)).cell? ⟨w0.heap.size, 0, none⟩ = some (.bool false) := by go_simp
      have ld1 : (w0.alloc (.cells #[.bool false, .slice none 0 0] 25)).cell? ⟨w0.heap.size, 1, none⟩ = some (.slice none 0 0) := by go_simp
      have ldR : Row (w0.alloc (.cells #[.bool false, .slice none 0 0] 25)) w0.heap.size := row_new w0 _ 25
      clear hHeld
      generalize (w0.alloc (.cells #[.bool false, .slice none 0 0] 25)) = w9 at hBW ld0 ld1 ldR khp sa ⊢
      generalize w0.heap.size = d at ldge ld0 ld1 ldR ⊢
      refine hK.out _ _ (kp2 (W := w41) hBW ⟨Qq00, Qq01, hB⟩) ?_
      intro hHeld
      clear hK K
      try simp only [Act.put, List.setIfInBounds_toArray, List.set_cons_zero, List.set_cons_succ]
      refine wpAnyH_ready (rs := [2, 8]) (by kernel_rfl) (by simp) ?_
      refine consT rfl (fun K hK => ?_) ?_
      · skip
        go_simp
        refine Calls.mono (made_f p41 P _ (by omega) khp) ?_
        rintro e w9_2 ⟨pm, rfl, hm1⟩
        have bb := hm1.below
        have sm := hm1.seg
        clear hm1
        replace hBW := hBW.trans (bb.mono hBW.size)
        replace khp := khp.later bb
        replace sa := sa.later bb
        replace ld0 := below_cell bb ld0
        replace ld1 := below_cell bb ld1
        replace ldR := below_row bb ldR
        clear bb
        go_wp2_with fail
        refine hK.out _ _ (kp2 (W := w41) hBW ⟨Qq00, Qq01, hB⟩) ?_
        clear hHeld
        intro hHeld
        clear hK K
        try simp only [Act.put, List.setIfInBounds_toArray, List.set_cons_zero, List.set_cons_succ]
        refine wpAnyH_ready (rs := [3, 8]) (by kernel_rfl) (by simp) ?_
        refine consT rfl (fun K hK => ?_) ?_
        · skip
          go_simp
          refine Calls.mono (HF.out _ pm sa sm) ?_
          rintro e w9_2_3 ⟨aq, ar, rfl, hF, hG⟩
          have bb := hF.below
          replace hF := hF.back hBW
          replace hG := hG.back hBW
          replace hBW := hBW.trans (bb.mono hBW.size)
          replace khp := khp.later bb
          replace sa := sa.later bb
          replace sm := sm.later bb
          replace ld0 := below_cell bb ld0
          replace ld1 := below_cell bb ld1
          replace ldR := below_row bb ldR
          clear bb
          go_wp2_with fail
          refine hK.out _ _ (kp2 (W := w41) hBW ⟨Qq00, Qq01, hB⟩) ?_
          clear hHeld
          intro hHeld
          clear hK K
          try simp only [Act.put, List.setIfInBounds_toArray, List.set_cons_zero, List.set_cons_succ]
          refine take' 4 (v := ?_) rfl (by kernel_rfl) (by kernel_rfl) (by kernel_rfl) (fun _ _ _ h => h) (Or.inl ⟨by rfl, ?_⟩) (by assumption) ?_
          rotate_left
          · intro w9 hSw
            go_simp
            first | done | with_reducible rfl
          simp only [Act.put, List.setIfInBounds_toArray, List.set_cons_zero, List.set_cons_succ]
          refine take' 5 (v := ?_) rfl (by kernel_rfl) (by kernel_rfl) (by kernel_rfl) (fun _ _ _ h => h) (Or.inl ⟨by rfl, ?_⟩) (by assumption) ?_
          rotate_left
          · intro w9 hSw
            go_simp
            first | done | with_reducible rfl
          simp only [Act.put, List.setIfInBounds_toArray, List.set_cons_zero, List.set_cons_succ]
          refine take' 6 (v := ?_) rfl (by kernel_rfl) (by kernel_rfl) (by kernel_rfl) (fun _ _ _ h => h) (Or.inl ⟨by rfl, ?_⟩) (by assumption) ?_
          rotate_left
          · intro w9 hSw
            go_simp
            first | done | with_reducible rfl
          simp only [Act.put, List.setIfInBounds_toArray, List.set_cons_zero, List.set_cons_succ]
          refine take' 7 (v := ?_) rfl (by kernel_rfl) (by kernel_rfl) (by kernel_rfl) (fun _ _ _ h => h) (Or.inl ⟨by rfl, ?_⟩) (by assumption) ?_
          rotate_left
          · intro w9 hSw
            go_simp
            first | done | with_reducible rfl
          simp only [Act.put, List.setIfInBounds_toArray, List.set_cons_zero, List.set_cons_succ]
          refine wpAnyH_ready (rs := [8]) (by kernel_rfl) (by simp) ?_
          refine consT rfl (fun K hK => ?_) ?_
          · skip
            go_simp
            have bb := below_alloc (w := w9_2_3) (.cells #[.bool false, .slice none 0 0] 25)
            have lcge := hBW.size
            have lab := ldR.lt
            replace hBW := hBW.trans (bb.mono hBW.size)
            replace khp := khp.later bb
            replace sa := sa.later bb
            replace sm := sm.later bb
            replace hF := hF.later bb
            replace hG := hG.later bb
            replace ld0 := below_cell bb ld0
            replace ld1 := below_cell bb ld1
            replace ldR := below_row bb ldR
            clear bb
            have lc0 : (w9_2_3.alloc (.cells #[.bool false, .slice none 0 0] 25)).cell? ⟨w9_2_3.heap.size, 0, none⟩ = some (.bool false) := by go_simp
            have lc1 : (w9_2_3.alloc (.cells #[.bool false, .slice none 0 0] 25)).cell? ⟨w9_2_3.heap.size, 1, none⟩ = some (.slice none 0 0) := by go_simp
            have lcR : Row (w9_2_3.alloc (.cells #[.bool false, .slice none 0 0] 25)) w9_2_3.heap.size := row_new w9_2_3 _ 25
            clear hHeld
            generalize (w9_2_3.alloc (.cells #[.bool false, .slice none 0 0] 25)) = w9_2_3_8 at hBW lc0 lc1 lcR ld0 ld1 ldR khp sa sm hF hG ⊢
            generalize w9_2_3.heap.size = c at lcge lc0 lc1 lcR lab ⊢
            refine hK.out _ _ (kp2 (W := w41) hBW ⟨Qq00, Qq01, hB⟩) ?_
            intro hHeld
            clear hK K
            try simp only [Act.put, List.setIfInBounds_toArray, List.set_cons_zero, List.set_cons_succ]
            have lcd : c ≠ d := by omega
            clear lab
            refine wpAnyH_ready (rs := [10]) (by kernel_rfl) (by simp) ?_
            refine cons' rfl (fun K hK => ?_)
            have lf := fun o => lcR.frozen o
            have X := stored2 (u0 := .bool (ng Z)) (u1 := .slice aq (ln (am Z)) (ln (am Z))) lc0 lc1 ld0 ld1 ldR hBW lcge lcd hF
            go_simp
            clear lc0 lc1 ld0 ld1 lf lcR ldR hHeld hBW hF
            generalize ((w9_2_3_8.setCell ⟨c, 0, none⟩ (.bool (ng Z))).setCell ⟨c, 1, none⟩ (.slice aq (ln (am Z)) (ln (am Z)))) = wl1 at X ⊢
            obtain ⟨lc0, lc1, ld0, ld1, ldR, hBW, hF⟩ := X
            have lcR := ldR
            refine hK.out _ _ (kp2 (W := w41) hBW ⟨Qq00, Qq01, hB⟩) ?_
            intro hHeld
            clear hK K
            try simp only [Act.put, List.setIfInBounds_toArray, List.set_cons_zero, List.set_cons_succ]
            refine wpAnyH_ready (rs := [11]) (by kernel_rfl) (by simp) ?_
            refine cons' rfl (fun K hK => ?_)
            have lf := fun o => ldR.frozen o
            have X := stored2 (u0 := .bool (ng G)) (u1 := .slice ar (ln (am G)) (ln (am G))) ld0 ld1 lc0 lc1 lcR hBW ldge lcd.symm hF
            go_simp
            clear ld0 ld1 lc0 lc1 lf ldR lcR hHeld hBW hF
            generalize ((wl1.setCell ⟨d, 0, none⟩ (.bool (ng G))).setCell ⟨d, 1, none⟩ (.slice ar (ln (am G)) (ln (am G)))) = wl2 at X ⊢
            obtain ⟨ld0, ld1, lc0, lc1, lcR, hBW, hF⟩ := X
            have ldR := lcR
            refine hK.out _ _ (kp2 (W := w41) hBW ⟨Qq00, Qq01, hB⟩) ?_
            intro hHeld
            clear hK K
            try simp only [Act.put, List.setIfInBounds_toArray, List.set_cons_zero, List.set_cons_succ]
            refine take' 12 (v := ?_) rfl (by kernel_rfl) (by kernel_rfl) (by kernel_rfl) (fun _ _ _ h => h) (Or.inl ⟨by rfl, ?_⟩) (by assumption) ?_
            rotate_left
            · intro w9 hSw
              go_simp
              first | done | with_reducible rfl
            simp only [Act.put, List.setIfInBounds_toArray, List.set_cons_zero, List.set_cons_succ]
            refine wpAnyH_done (by kernel_rfl) ?_ _
            go_wp2_with fail
            go_meet
            exact ⟨c, aq, rfl, lcge, lc0, lc1, hF, hBW⟩
          exact AllReadyH.nil
        refine consT rfl (fun K hK => ?_) ?_
        · skip
          go_simp
          have bb := below_alloc (w := w9_2) (.cells #[.bool false, .slice none 0 0] 25)
          have lcge := hBW.size
          have lab := ldR.lt
          replace hBW := hBW.trans (bb.mono hBW.size)
          replace khp := khp.later bb
          replace sa := sa.later bb
          replace sm := sm.later bb
          replace ld0 := below_cell bb ld0
          replace ld1 := below_cell bb ld1
          replace ldR := below_row bb ldR
          clear bb
          have lc0 : (w9_2.alloc (.cells #[.bool false, .slice none 0 0] 25)).cell? ⟨w9_2.heap.size, 0, none⟩ = some (.bool false) := by go_simp
          have lc1 : (w9_2.alloc (.cells #[.bool false, .slice none 0 0] 25)).cell? ⟨w9_2.heap.size, 1, none⟩ = some (.slice none 0 0) := by go_simp
          have lcR : Row (w9_2.alloc (.cells #[.bool false, .slice none 0 0] 25)) w9_2.heap.size := row_new w9_2 _ 25
          clear hHeld
          generalize (w9_2.alloc (.cells #[.bool false, .slice none 0 0] 25)) = w9_2_8 at hBW lc0 lc1 lcR ld0 ld1 ldR khp sa sm ⊢
          generalize w9_2.heap.size = c at lcge lc0 lc1 lcR lab ⊢
          refine hK.out _ _ (kp2 (W := w41) hBW ⟨Qq00, Qq01, hB⟩) ?_
          intro hHeld
          clear hK K
          try simp only [Act.put, List.setIfInBounds_toArray, List.set_cons_zero, List.set_cons_succ]
          refine wpAnyH_ready (rs := [3]) (by kernel_rfl) (by simp) ?_
          refine consT rfl (fun K hK => ?_) ?_
          · skip
            go_simp
            refine Calls.mono (HF.out _ pm sa sm) ?_
            rintro e w9_2_8_3 ⟨aq, ar, rfl, hF, hG⟩
            have bb := hF.below
            replace hF := hF.back hBW
            replace hG := hG.back hBW
            replace hBW := hBW.trans (bb.mono hBW.size)
            replace khp := khp.later bb
            replace sa := sa.later bb
            replace sm := sm.later bb
            replace lc0 := below_cell bb lc0
            replace lc1 := below_cell bb lc1
            replace lcR := below_row bb lcR
            replace ld0 := below_cell bb ld0
            replace ld1 := below_cell bb ld1
            replace ldR := below_row bb ldR
            clear bb
            go_wp2_with fail
            refine hK.out _ _ (kp2 (W := w41) hBW ⟨Qq00, Qq01, hB⟩) ?_
            clear hHeld
            intro hHeld
            clear hK K
            try simp only [Act.put, List.setIfInBounds_toArray, List.set_cons_zero, List.set_cons_succ]
            refine take' 4 (v := ?_) rfl (by kernel_rfl) (by kernel_rfl) (by kernel_rfl) (fun _ _ _ h => h) (Or.inl ⟨by rfl, ?_⟩) (by assumption) ?_
            rotate_left
            · intro w9 hSw
              go_simp
              first | done | with_reducible rfl
            simp only [Act.put, List.setIfInBounds_toArray, List.set_cons_zero, List.set_cons_succ]
            refine take' 5 (v := ?_) rfl (by kernel_rfl) (by kernel_rfl) (by kernel_rfl) (fun _ _ _ h => h) (Or.inl ⟨by rfl, ?_⟩) (by assumption) ?_
            rotate_left
            · intro w9 hSw
              go_simp
              first | done | with_reducible rfl
            simp only [Act.put, List.setIfInBounds_toArray, List.set_cons_zero, List.set_cons_succ]
            refine take' 6 (v := ?_) rfl (by kernel_rfl) (by kernel_rfl) (by kernel_rfl) (fun _ _ _ h => h) (Or.inl ⟨by rfl, ?_⟩) (by assumption) ?_
            rotate_left
            · intro w9 hSw
              go_simp
              first | done | with_reducible rfl
            simp only [Act.put, List.setIfInBounds_toArray, List.set_cons_zero, List.set_cons_succ]
            refine take' 7 (v := ?_) rfl (by kernel_rfl) (by kernel_rfl) (by kernel_rfl) (fun _ _ _ h => h) (Or.inl ⟨by rfl, ?_⟩) (by assumption) ?_
            rotate_left
            · intro w9 hSw
              go_simp
              first | done | with_reducible rfl
            simp only [Act.put, List.setIfInBounds_toArray, List.set_cons_zero, List.set_cons_succ]
            have lcd : c ≠ d := by omega
            clear lab
            refine wpAnyH_ready (rs := [10]) (by kernel_rfl) (by simp) ?_
            refine cons' rfl (fun K hK => ?_)
            have lf := fun o => lcR.frozen o
            have X := stored2 (u0 := .bool (ng Z)) (u1 := .slice aq (ln (am Z)) (ln (am Z))) lc0 lc1 ld0 ld1 ldR hBW lcge lcd hF
            go_simp
            clear lc0 lc1 ld0 ld1 lf lcR ldR hHeld hBW hF
            generalize ((w9_2_8_3.setCell ⟨c, 0, none⟩ (.bool (ng Z))).setCell ⟨c, 1, none⟩ (.slice aq (ln (am Z)) (ln (am Z)))) = wl1 at X ⊢
            obtain ⟨lc0, lc1, ld0, ld1, ldR, hBW, hF⟩ := X
            have lcR := ldR
            refine hK.out _ _ (kp2 (W := w41) hBW ⟨Qq00, Qq01, hB⟩) ?_
            intro hHeld
            clear hK K
            try simp only [Act.put, List.setIfInBounds_toArray, List.set_cons_zero, List.set_cons_succ]
            refine wpAnyH_ready (rs := [11]) (by kernel_rfl) (by simp) ?_
            refine cons' rfl (fun K hK => ?_)
            have lf := fun o => ldR.frozen o
            have X := stored2 (u0 := .bool (ng G)) (u1 := .slice ar (ln (am G)) (ln (am G))) ld0 ld1 lc0 lc1 lcR hBW ldge lcd.symm hF
            go_simp
            clear ld0 ld1 lc0 lc1 lf ldR lcR hHeld hBW hF
            generalize ((wl1.setCell ⟨d, 0, none⟩ (.bool (ng G))).setCell ⟨d, 1, none⟩ (.slice ar (ln (am G)) (ln (am G)))) = wl2 at X ⊢
            obtain ⟨ld0, ld1, lc0, lc1, lcR, hBW, hF⟩ := X
            have ldR := lcR
            refine hK.out _ _ (kp2 (W := w41) hBW ⟨Qq00, Qq01, hB⟩) ?_
            intro hHeld
            clear hK K
            try simp only [Act.put, List.setIfInBounds_toArray, List.set_cons_zero, List.set_cons_succ]
            refine take' 12 (v := ?_) rfl (by kernel_rfl) (by kernel_rfl) (by kernel_rfl) (fun _ _ _ h => h) (Or.inl ⟨by rfl, ?_⟩) (by assumption) ?_
            rotate_left
            · intro w9 hSw
              go_simp
              first | done | with_reducible rfl
            simp only [Act.put, List.setIfInBounds_toArray, List.set_cons_zero, List.set_cons_succ]
            refine wpAnyH_done (by kernel_rfl) ?_ _
            go_wp2_with fail
            go_meet
            exact ⟨c, aq, rfl, lcge, lc0, lc1, hF, hBW⟩
          exact AllReadyH.nil
        exact AllReadyH.nil
      refine consT rfl (fun K hK => ?_) ?_
      · skip
        go_simp
        have bb := below_alloc (w := w9) (.cells #[.bool false, .slice none 0 0] 25)
        have lcge := hBW.size
        have lab := ldR.lt
        replace hBW := hBW.trans (bb.mono hBW.size)
        replace khp := khp.later bb
        replace sa := sa.later bb
        replace ld0 := below_cell bb ld0
        replace ld1 := below_cell bb ld1
        replace ldR := below_row bb ldR
        clear bb
        have lc0 : (w9.alloc (.cells #[.bool false, .slice none 0 0] 25)).cell? ⟨w9.heap.size, 0, none⟩ = some (.bool false) := by go_simp
        have lc1 : (w9.alloc (.cells #[.bool false, .slice none 0 0] 25)).cell? ⟨w9.heap.size, 1, none⟩ = some (.slice none 0 0) := by go_simp
        have lcR : Row (w9.alloc (.cells #[.bool false, .slice none 0 0] 25)) w9.heap.size := row_new w9 _ 25
        clear hHeld
        generalize (w9.alloc (.cells #[.bool false, .slice none 0 0] 25)) = w9_8 at hBW lc0 lc1 lcR ld0 ld1 ldR khp sa ⊢
        generalize w9.heap.size = c at lcge lc0 lc1 lcR lab ⊢
        refine hK.out _ _ (kp2 (W := w41) hBW ⟨Qq00, Qq01, hB⟩) ?_
        intro hHeld
        clear hK K
        try simp only [Act.put, List.setIfInBounds_toArray, List.set_cons_zero, List.set_cons_succ]
        refine wpAnyH_ready (rs := [2]) (by kernel_rfl) (by simp) ?_
        refine consT rfl (fun K hK => ?_) ?_
        · skip
          go_simp
          refine Calls.mono (made_f p41 P _ (by omega) khp) ?_
          rintro e w9_8_2 ⟨pm, rfl, hm1⟩
          have bb := hm1.below
          have sm := hm1.seg
          clear hm1
          replace hBW := hBW.trans (bb.mono hBW.size)
          replace khp := khp.later bb
          replace sa := sa.later bb
          replace lc0 := below_cell bb lc0
          replace lc1 := below_cell bb lc1
          replace lcR := below_row bb lcR
          replace ld0 := below_cell bb ld0
          replace ld1 := below_cell bb ld1
          replace ldR := below_row bb ldR
          clear bb
          go_wp2_with fail
          refine hK.out _ _ (kp2 (W := w41) hBW ⟨Qq00, Qq01, hB⟩) ?_
          clear hHeld
          intro hHeld
          clear hK K
          try simp only [Act.put, List.setIfInBounds_toArray, List.set_cons_zero, List.set_cons_succ]
          refine wpAnyH_ready (rs := [3]) (by kernel_rfl) (by simp) ?_
          refine consT rfl (fun K hK => ?_) ?_
          · skip
            go_simp
            refine Calls.mono (HF.out _ pm sa sm) ?_
            rintro e w9_8_2_3 ⟨aq, ar, rfl, hF, hG⟩
            have bb := hF.below
            replace hF := hF.back hBW
            replace hG := hG.back hBW
            replace hBW := hBW.trans (bb.mono hBW.size)
            replace khp := khp.later bb
            replace sa := sa.later bb
            replace sm := sm.later bb
            replace lc0 := below_cell bb lc0
            replace lc1 := below_cell bb lc1
            replace lcR := below_row bb lcR
            replace ld0 := below_cell bb ld0
            replace ld1 := below_cell bb ld1
            replace ldR := below_row bb ldR
            clear bb
            go_wp2_with fail
            refine hK.out _ _ (kp2 (W := w41) hBW ⟨Qq00, Qq01, hB⟩) ?_
            clear hHeld
            intro hHeld
            clear hK K
            try simp only [Act.put, List.setIfInBounds_toArray, List.set_cons_zero, List.set_cons_succ]
            refine take' 4 (v := ?_) rfl (by kernel_rfl) (by kernel_rfl) (by kernel_rfl) (fun _ _ _ h => h) (Or.inl ⟨by rfl, ?_⟩) (by assumption) ?_
            rotate_left
            · intro w9 hSw
              go_simp
              first | done | with_reducible rfl
            simp only [Act.put, List.setIfInBounds_toArray, List.set_cons_zero, List.set_cons_succ]
            refine take' 5 (v := ?_) rfl (by kernel_rfl) (by kernel_rfl) (by kernel_rfl) (fun _ _ _ h => h) (Or.inl ⟨by rfl, ?_⟩) (by assumption) ?_
            rotate_left
            · intro w9 hSw
              go_simp
              first | done | with_reducible rfl
            simp only [Act.put, List.setIfInBounds_toArray, List.set_cons_zero, List.set_cons_succ]
            refine take' 6 (v := ?_) rfl (by kernel_rfl) (by kernel_rfl) (by kernel_rfl) (fun _ _ _ h => h) (Or.inl ⟨by rfl, ?_⟩) (by assumption) ?_
            rotate_left
            · intro w9 hSw
              go_simp
              first | done | with_reducible rfl
            simp only [Act.put, List.setIfInBounds_toArray, List.set_cons_zero, List.set_cons_succ]
            refine take' 7 (v := ?_) rfl (by kernel_rfl) (by kernel_rfl) (by kernel_rfl) (fun _ _ _ h => h) (Or.inl ⟨by rfl, ?_⟩) (by assumption) ?_
            rotate_left
            · intro w9 hSw
              go_simp
              first | done | with_reducible rfl
            simp only [Act.put, List.setIfInBounds_toArray, List.set_cons_zero, List.set_cons_succ]
            have lcd : c ≠ d := by omega
            clear lab
            refine wpAnyH_ready (rs := [10]) (by kernel_rfl) (by simp) ?_
            refine cons' rfl (fun K hK => ?_)
            have lf := fun o => lcR.frozen o
            have X := stored2 (u0 := .bool (ng Z)) (u1 := .slice aq (ln (am Z)) (ln (am Z))) lc0 lc1 ld0 ld1 ldR hBW lcge lcd hF
            go_simp
            clear lc0 lc1 ld0 ld1 lf lcR ldR hHeld hBW hF
            generalize ((w9_8_2_3.setCell ⟨c, 0, none⟩ (.bool (ng Z))).setCell ⟨c, 1, none⟩ (.slice aq (ln (am Z)) (ln (am Z)))) = wl1 at X ⊢
            obtain ⟨lc0, lc1, ld0, ld1, ldR, hBW, hF⟩ := X
            have lcR := ldR
            refine hK.out _ _ (kp2 (W := w41) hBW ⟨Qq00, Qq01, hB⟩) ?_
            intro hHeld
            clear hK K
            try simp only [Act.put, List.setIfInBounds_toArray, List.set_cons_zero, List.set_cons_succ]
            refine wpAnyH_ready (rs := [11]) (by kernel_rfl) (by simp) ?_
            refine cons' rfl (fun K hK => ?_)
            have lf := fun o => ldR.frozen o
            have X := stored2 (u0 := .bool (ng G)) (u1 := .slice ar (ln (am G)) (ln (am G))) ld0 ld1 lc0 lc1 lcR hBW ldge lcd.symm hF
            go_simp
            clear ld0 ld1 lc0 lc1 lf ldR lcR hHeld hBW hF
            generalize ((wl1.setCell ⟨d, 0, none⟩ (.bool (ng G))).setCell ⟨d, 1, none⟩ (.slice ar (ln (am G)) (ln (am G)))) = wl2 at X ⊢
            obtain ⟨ld0, ld1, lc0, lc1, lcR, hBW, hF⟩ := X
            have ldR := lcR
            refine hK.out _ _ (kp2 (W := w41) hBW ⟨Qq00, Qq01, hB⟩) ?_
            intro hHeld
            clear hK K
            try simp only [Act.put, List.setIfInBounds_toArray, List.set_cons_zero, List.set_cons_succ]
            refine take' 12 (v := ?_) rfl (by kernel_rfl) (by kernel_rfl) (by kernel_rfl) (fun _ _ _ h => h) (Or.inl ⟨by rfl, ?_⟩) (by assumption) ?_
            rotate_left
            · intro w9 hSw
              go_simp
              first | done | with_reducible rfl
            simp only [Act.put, List.setIfInBounds_toArray, List.set_cons_zero, List.set_cons_succ]
            refine wpAnyH_done (by kernel_rfl) ?_ _
            go_wp2_with fail
            go_meet
            exact ⟨c, aq, rfl, lcge, lc0, lc1, hF, hBW⟩
          exact AllReadyH.nil
        exact AllReadyH.nil
      exact AllReadyH.nil
    exact AllReadyH.nil
  case rest =>
  clear hBW
  obtain ⟨c, aq, rfl, hge, lc0, lc1, hF, hBW⟩ := hcut
  replace q00 := below_cell hBW q00
  replace q01 := below_cell hBW q01
  replace r00 := below_cell hBW r00
  replace r01 := below_cell hBW r01
  replace hR0 := below_row hBW hR0
  have fz0 := fun o => hR0.frozen o
  go_wp2
  all_goals refine bodyPost_ret (v := .tuple #[.agg #[.bool (ng Z), .slice aq (ln (am Z)) (ln (am Z))], .int .i64 0]) (by rw [results_ctS rfl]; go_simp) rfl ?_
  all_goals exact ⟨aq, rfl, hF.mid hB ((((Mid.refl _ _ _).set _ _ (by omega) (by omega) _).set _ _ (by omega) (by omega) _))⟩

end Go.Proofs.Ytjdilgkjgednjaa
