import Derived.Test.YtecfkfcogobhoaaGreatDoorWQ5
import Derived.Test.YtecfkfcogobhoaaGreatDoorWSC
set_option linter.unusedSimpArgs false
namespace Go.Proofs.YtecfkfcogobhoaaGreatDoor
open Go.RowKit
set_option linter.unusedVariables false
set_option maxHeartbeats 2000000 in
theorem qWhole_is (z : Int) (w : World) (h1 : -9223372036854775808 ≤ z) (h2 : z ≤ 9223372036854775807) :
    Calls Tryz.prog 20 #[.int .i64 z] w fun e w' => ∃ p q, e = .returned (.agg #[.bool (ng z), .slice p (ln (am z)) (ln (am z)), .slice q (ln 1) (ln 1)]) ∧ New w w' p (am z) (ln (am z)) ∧ New w w' q 1 (ln 1) := by
  have lz : ln (am z) ≤ 2 := ln_le_of_lt (by rw [BB2]; unfold am; omega)
  have l1 : ln 1 ≤ 2 := by rw [ln_one]; omega
  have H0 := hide' (fun w' => wOf_is z w' h1 h2)
  obtain ⟨V, hV⟩ : ∃ V : Nat, 1 = V := ⟨_, rfl⟩
  have hL : Low (sg (ng z) (am z)) (V : Int) z V := by rw [sg_na, ← hV]; exact Low.self (by omega) (by simp)
  have H1' := fun w' => wOf_is 1 w' (by omega) (by omega)
  rw [show ng 1 = false from rfl, show am 1 = 1 from rfl] at H1'
  rw [hV] at l1
  have H1 : ∀ w', Calls Tryz.prog 40 #[.int .i64 1] w' fun e w'' => ∃ ao', e = .returned (.agg #[.bool false, .slice ao' (ln V) (ln V)]) ∧ New w' w'' ao' V (ln V) := by rw [← hV]; exact H1'
  have G1 := hide' H1
  have H2 := hide' (fun w' p q k1 k2 => lowest_is (ng z) p (ln (am z)) (ln (am z)) (am z) q (ln V) (ln V) V V z w' (Nat.le_refl _) (by omega) k1 (Nat.le_refl _) (by omega) k2 hL)
  rw [show ln 1 = ln V by rw [hV]]
  have e1 : ∀ w' q, New w w' q 1 (ln V) ↔ New w w' q V (ln V) := fun w' q => by rw [← hV]
  simp only [e1]
  clear H1' H1 hL hV h1 h2 e1
  go_enter Tryz.func20, Tryz.ntmps20
  go_wp2_with fail
  obtain ⟨W, hW⟩ : ∃ W, (w.alloc (.cells #[.bool false, .slice none 0 0, .slice none 0 0] 27)) = W := ⟨_, rfl⟩
  have r00 : W.cell? ⟨w.heap.size, 0, none⟩ = some (.bool false) := by subst hW; go_simp
  have r01 : W.cell? ⟨w.heap.size, 1, none⟩ = some (.slice none 0 0) := by subst hW; go_simp
  have r02 : W.cell? ⟨w.heap.size, 2, none⟩ = some (.slice none 0 0) := by subst hW; go_simp
  have hB : Below w.heap.size w W := by subst hW; exact ((Below.refl _ _).alloc (by (try simp only [World.size_alloc]); omega) _)
  have hR0 : Row W (w.heap.size) := by
    have := row_new (w) #[.bool false, .slice none 0 0, .slice none 0 0] 27
    try simp only [World.size_alloc] at this
    subst hW; exact this
  have hz : W.heap.size = w.heap.size + 1 := by subst hW; simp only [World.size_alloc]
  rw [hW]
  clear hW
  have hBW : Below W.heap.size W W := Below.refl _ _
  refine (H0.out _).mono ?_
  rintro e w1 ⟨a1, rfl, h1⟩
  have b1 := h1.below
  replace h1 := h1.back hBW
  replace hBW := hBW.trans (b1.mono hBW.size)
  replace r00 := below_cell b1 r00
  replace r01 := below_cell b1 r01
  replace r02 := below_cell b1 r02
  replace hR0 := below_row b1 hR0
  go_wp2_with fail
  refine (G1.out _).mono ?_
  rintro e w2 ⟨a2, rfl, h2⟩
  have b2 := h2.below
  replace h2 := h2.back hBW
  replace hBW := hBW.trans (b2.mono hBW.size)
  replace r00 := below_cell b2 r00
  replace r01 := below_cell b2 r01
  replace r02 := below_cell b2 r02
  replace hR0 := below_row b2 hR0
  replace h1 := h1.later b2
  go_wp2_with fail
  refine (H2.out _ a1 a2 h1.seg h2.seg).mono ?_
  rintro e w3 ⟨p3, q3, rfl, hp3, hq3⟩
  have b3 := hp3.below
  replace hp3 := hp3.back hBW
  replace hq3 := hq3.back hBW
  replace hBW := hBW.trans (b3.mono hBW.size)
  replace r00 := below_cell b3 r00
  replace r01 := below_cell b3 r01
  replace r02 := below_cell b3 r02
  replace hR0 := below_row b3 hR0
  replace h1 := h1.later b3
  replace h2 := h2.later b3
  have fz0 := fun o => hR0.frozen o
  go_wp2
  all_goals refine bodyPost_ret (v := Value.agg #[Value.bool (ng z), Value.slice p3 (ln (am z)) (ln (am z)), Value.slice q3 (ln V) (ln V)]) (by rw [results_cell rfl]; go_simp) rfl ?_
  all_goals exact ⟨p3, q3, rfl, hp3.mid hB (((((Mid.refl _ _ _).set _ _ (by omega) (by omega) _).set _ _ (by omega) (by omega) _).set _ _ (by omega) (by omega) _)), hq3.mid hB (((((Mid.refl _ _ _).set _ _ (by omega) (by omega) _).set _ _ (by omega) (by omega) _).set _ _ (by omega) (by omega) _))⟩
open Go.RowKit Go.Shelf
set_option maxHeartbeats 2000000 in
set_option maxRecDepth 100000 in
theorem between_is (a b c d : NV) (w : World) :
    Calls Tryz.prog 19 #[.agg #[.bool a.s, .slice a.a a.n a.c, .bool false, .slice b.a b.n b.c], .agg #[.bool c.s, .slice c.a c.n c.c, .bool false, .slice d.a d.n d.c]] w fun e w' => ∃ cL cH, e = .returned (.func (.func 48) #[] #[.pointer (some ⟨cL, 0, none⟩), .pointer (some ⟨cH, 0, none⟩)]) ∧ Blk w' cL #[.bool a.s, .slice a.a a.n a.c, .bool false, .slice b.a b.n b.c] 39 ∧ Blk w' cH #[.bool c.s, .slice c.a c.n c.c, .bool false, .slice d.a d.n d.c] 39 ∧ Below w.heap.size w w' := by
  have q1 := (Blk.new w #[.bool a.s, .slice a.a a.n a.c, .bool false, .slice b.a b.n b.c] 39).later (below_alloc (.cells #[.bool c.s, .slice c.a c.n c.c, .bool false, .slice d.a d.n d.c] 39))
  have q2 := Blk.new (w.alloc (.cells #[.bool a.s, .slice a.a a.n a.c, .bool false, .slice b.a b.n b.c] 39)) #[.bool c.s, .slice c.a c.n c.c, .bool false, .slice d.a d.n d.c] 39
  simp only [World.size_alloc] at q2
  have hB : Below w.heap.size w ((w.alloc (.cells #[.bool a.s, .slice a.a a.n a.c, .bool false, .slice b.a b.n b.c] 39)).alloc (.cells #[.bool c.s, .slice c.a c.n c.c, .bool false, .slice d.a d.n d.c] 39)) := ((Below.refl _ _).alloc (Nat.le_refl _) _).alloc (by rw [World.size_alloc]; omega) _
  go_enter Tryz.func19, Tryz.ntmps19
  go_wp2
  go_ret
  exact ⟨w.heap.size, w.heap.size + 1, rfl, q1, q2, hB⟩
theorem t_bd {A B C D N : Nat} (hA : A < BB ^ N) (hB : B < BB ^ N) (hC : C < BB ^ N) (hD : D < BB ^ N) : A + C + (B + D) + 1 < BB ^ (N + 1) := by
  rw [Nat.pow_succ]
  have h2 : BB ^ N * 8 ≤ BB ^ N * BB := Nat.mul_le_mul_left _ (by rw [BB_eq]; omega)
  have := BBp N
  omega
set_option maxHeartbeats 1000000 in
theorem svalue (w : World) (cL cH : Nat) (a b c d : NV) (hqL : Blk w cL #[.bool a.s, .slice a.a a.n a.c, .bool false, .slice b.a b.n b.c] 39) (hqH : Blk w cH #[.bool c.s, .slice c.a c.n c.c, .bool false, .slice d.a d.n d.c] 39) (ha : a.ok w) (hb : b.ok w) (hc : c.ok w) (hd : d.ok w) (hSb : Sb a.val b.X c.val d.X) (hsz : a.n ≤ 2097152 ∧ b.n ≤ 2097152 ∧ c.n ≤ 2097152 ∧ d.n ≤ 2097152) :
    Calls Tryz.prog 18 #[.func (.func 48) #[] #[.pointer (some ⟨cL, 0, none⟩), .pointer (some ⟨cH, 0, none⟩)]] w fun e w' => ∃ (P : Int) (Q : Nat) (pa pb : Option Addr), Sbt a.val b.X c.val d.X P Q ∧ Nat.gcd (am P) Q = 1 ∧ am P ≤ a.X + c.X ∧ Q ≤ b.X + d.X ∧ e = .returned (.agg #[.bool (ng P), .slice pa (ln (am P)) (ln (am P)), .slice pb (ln Q) (ln Q)]) ∧ Below w.heap.size w w' ∧ Seg w' pa (am P) (ln (am P)) ∧ Seg w' pb Q (ln Q) := by
  obtain ⟨m, hm⟩ : ∃ m, sbm a.val b.X c.val d.X < m := ⟨_, Nat.lt_succ_self _⟩
  obtain ⟨L, hL⟩ : ∃ L, sbl m a.val b.X c.val d.X = L := ⟨_, rfl⟩
  have hs := sbl_is m _ _ _ _ hSb hm
  have hp := fun (l rest : List Int) (x : Int) (e : l ++ x :: rest = sbl m a.val b.X c.val d.X) => sbl_pre hSb hm e
  have hg := cpq_cop (sbl m a.val b.X c.val d.X)
  rw [hL] at hs hp hg
  obtain ⟨P, Q, hPQ⟩ : ∃ P Q, cpq L = (P, Q) := ⟨_, _, rfl⟩
  rw [hPQ] at hs hp hg
  simp only at hs hp hg
  have hsm := hs.small hSb
  have p0 := hs.p0
  have q0 := hs.q0
  have ba := (sg_bounds a.s a.X).2
  have bc := (sg_bounds c.s c.X).2
  have hPa : am P ≤ a.X + c.X := by have h1 : a.val ≤ (a.X : Int) := ba; have h2 : c.val ≤ (c.X : Int) := bc; unfold am; omega
  have hQa : am Q ≤ b.X + d.X := by unfold am; omega
  obtain ⟨N, hN⟩ : ∃ N, N = 2097152 := ⟨_, rfl⟩
  have hlt := t_bd (N := N) (Nat.lt_of_lt_of_le ha.1.1 (pow_mono (by omega))) (Nat.lt_of_lt_of_le hb.1.1 (pow_mono (by omega))) (Nat.lt_of_lt_of_le hc.1.1 (pow_mono (by omega))) (Nat.lt_of_lt_of_le hd.1.1 (pow_mono (by omega)))
  have hT : am P + am Q + 1 < BB ^ 4194304 := by
    obtain ⟨M, hM⟩ : ∃ M, M = 4194304 := ⟨_, rfl⟩
    rw [← hM]
    exact Nat.lt_of_le_of_lt (by omega) (Nat.lt_of_lt_of_le hlt (pow_mono (by omega)))
  refine (valueB_is w cL cH a b c d L m (am P + am Q + 1) hqL hqH ha hb hc hd hSb hm hL hsz (by omega) hT (fun l x rest e => ?_)).mono ?_
  · obtain ⟨h1, h2, h3, h4⟩ := hp l rest x e
    exact ⟨by unfold am; omega, by unfold am; omega⟩
  · rintro e w' ⟨P', Q', pa, pb, hPQ', rfl, hB, k1, k2⟩
    rw [hPQ] at hPQ'
    obtain ⟨rfl, rfl⟩ : P = P' ∧ Q = Q' := by simpa using hPQ'
    have eQ : ((am Q : Nat) : Int) = Q := by unfold am; omega
    exact ⟨P, am Q, pa, pb, by rw [eQ]; exact hs, hg, hPa, hQa, rfl, hB, k1, k2⟩
end Go.Proofs.YtecfkfcogobhoaaGreatDoor
