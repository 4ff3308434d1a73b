/-
  Layer 2: the reference's Root.
-/
import Derived.Test.YtjdilgkjgednjaaWR1
import Derived.Test.YtjdilgkjgednjaaWS2
import Derived.Test.YtjdilgkjgednjaaWI4
import Derived.Test.YtjdilgkjgednjaaW13
import Derived.Test.YtjdilgkjgednjaaW4
import Derived.Deep.CutRange
namespace Go.Proofs.Ytjdilgkjgednjaa
open Go.RowKit
set_option linter.unusedVariables false

theorem sq_up {X r j : Nat} (h : X < (r + 2 ^ (j + 1)) * (r + 2 ^ (j + 1))) : X < (r + 2 ^ j + 2 ^ j) * (r + 2 ^ j + 2 ^ j) := by
  rw [Nat.add_assoc, ← Nat.two_mul, Nat.mul_comm 2, ← Nat.pow_succ]; exact h
theorem put_bit (q r : Nat) : put 0 q 1 (2 ^ r) = 2 ^ (32 * q + r) := by
  rw [put_high (BBp _), Nat.zero_mod, Nat.add_zero, BB_two', Nat.pow_add, Nat.mul_comm]
theorem start_sq {X n : Nat} (h : X < BB ^ n) : X < (0 + 2 ^ (16 * n + 2)) * (0 + 2 ^ (16 * n + 2)) := by
  rw [Nat.zero_add, ← Nat.pow_add]
  refine Nat.lt_of_lt_of_le h ?_
  rw [BB_two']
  exact Nat.pow_le_pow_right (by omega) (by omega)
theorem root_half {X r n m : Nat} (h : r * r ≤ X) (hX : X < BB ^ n) (hm : n ≤ m + m) : ln r ≤ m := by
  rcases Nat.lt_or_ge r (BB ^ m) with h1 | h1
  · exact ln_le_of_lt h1
  · have h2 := Nat.mul_le_mul h1 h1
    rw [← Nat.pow_add] at h2
    have h3 : BB ^ n ≤ BB ^ (m + m) := pow_mono hm
    omega
theorem made_g (pa : Option Addr) (P : Nat) (w : World) (hm : ln P ≤ 70368744177664) (hS : Seg w pa P (ln P)) :
    Calls Try.prog 30 #[.bool false, .slice pa (ln P) (ln P)] w fun e w' => ∃ a, e = .returned (.agg #[.bool false, .slice a (ln P) (ln P)]) ∧ New w w' a P (ln P) := by
  have h := made_is false pa (ln P) (ln P) P _ w hm hS rfl
  rw [am_sg, ng_sg, Bool.false_and] at h
  exact h
set_option maxHeartbeats 8000000 in
set_option maxRecDepth 100000 in
theorem vRoot_neg (s : Bool) (ao : Option Addr) (n cap X : Nat) (w : World) (hc : n ≤ cap) (hm : n ≤ 35184372087808) (hS : Seg w ao X n) (C : Int) (hC : sgn (sg s X) = C) (h0 : C < 0) : Calls Try.prog 11 #[.agg #[.bool s, .slice ao n cap]] w fun e w' => e = .returned (.tuple #[.agg #[.bool false, .slice none 0 0], .int .i64 10]) ∧ Below w.heap.size w w' := by
  have H1' := fun w' h => vSign_is s ao n cap X _ w' (by omega) h rfl
  rw [hC] at H1'
  have H1 := hide' H1'
  clear H1' hC
  go_enter Try.func11, Try.ntmps11
  go_wp2_with fail
  obtain ⟨W, hW⟩ : ∃ W, ((w.alloc (.cells #[.bool s, .slice ao n cap] 25)).alloc (.cells #[.bool false, .slice none 0 0] 25)) = W := ⟨_, rfl⟩
  have q00 : W.cell? ⟨w.heap.size, 0, none⟩ = some (.bool s) := by subst hW; go_simp
  have q01 : W.cell? ⟨w.heap.size, 1, none⟩ = some (.slice ao n cap) := by subst hW; go_simp
  have r00 : W.cell? ⟨w.heap.size + 1, 0, none⟩ = some (.bool false) := by subst hW; go_simp
  have r01 : W.cell? ⟨w.heap.size + 1, 1, none⟩ = some (.slice none 0 0) := by subst hW; go_simp
  have hB : Below w.heap.size w W := by subst hW; exact (((Below.refl _ _).alloc (by (try simp only [World.size_alloc]); omega) _).alloc (by (try simp only [World.size_alloc]); omega) _)
  have hR0 : Row W (w.heap.size + 1) := by
    have := row_new ((w.alloc (.cells #[.bool s, .slice ao n cap] 25))) #[.bool false, .slice none 0 0] 25
    try simp only [World.size_alloc] at this
    subst hW; exact this
  have hz : W.heap.size = w.heap.size + 1 + 1 := by subst hW; simp only [World.size_alloc]
  rw [hW]
  clear hW
  have hBW : Below W.heap.size W W := Below.refl _ _
  refine (H1.out _ (sb hS hB hBW)).mono ?_
  rintro e w41 ⟨rfl, b41⟩
  replace hBW := hBW.trans (b41.mono hBW.size)
  replace q00 := below_cell b41 q00
  replace q01 := below_cell b41 q01
  replace r00 := below_cell b41 r00
  replace r01 := below_cell b41 r01
  replace hR0 := below_row b41 hR0
  have fz0 := fun o => hR0.frozen o
  go_wp2
  all_goals refine bodyPost_ret (v := .tuple #[.agg #[.bool false, .slice none 0 0], .int .i64 10]) (by rw [results_ctS rfl]; go_simp) rfl ?_
  all_goals exact ⟨rfl, by first | exact ((bsetS (bsetS (hB.trans (hBW.mono hB.size)) (by omega)) (by omega))) | exact hB.trans (hBW.mono hB.size)⟩

set_option maxHeartbeats 8000000 in
set_option maxRecDepth 100000 in
theorem vRoot_pos (s : Bool) (ao : Option Addr) (n cap X : Nat) (w : World) (hc : n ≤ cap) (hm : n ≤ 35184372087808) (hS : Seg w ao X n) (C : Int) (hC : sgn (sg s X) = C) (h0 : ¬ (C < 0)) (R : Nat) (hR : isq X R) : Calls Try.prog 11 #[.agg #[.bool s, .slice ao n cap]] w fun e w' => ∃ a', e = .returned (.tuple #[.agg #[.bool false, .slice a' (ln R) (ln R)], .int .i64 0]) ∧ New w w' a' R (ln R) := by
  have H1' := fun w' h => vSign_is s ao n cap X _ w' (by omega) h rfl
  rw [hC] at H1'
  have H1 := hide' H1'
  clear H1' hC
  have HQ := hide' hR
  clear hR
  have hst := start_sq hS.1
  have HST := hide' hst
  have HX := hide' hS.1
  clear hst
  obtain ⟨S0, hS0⟩ : ∃ m, 16 * n + 2 = m := ⟨_, rfl⟩
  rw [hS0] at HST
  have hw1 : (16 : Int) * (n : Int) + 1 = (S0 : Int) - 1 := by omega
  have hw2 : IntKind.i64.wrap ((16 : Int) * (n : Int)) = (16 : Int) * (n : Int) := by rw [IntKind.wrap_i64]; omega
  have hw3 : IntKind.i64.wrap ((S0 : Int) - 1) = (S0 : Int) - 1 := by rw [IntKind.wrap_i64]; omega
  go_enter Try.func11, Try.ntmps11
  go_wp2_with fail
  obtain ⟨W, hW⟩ : ∃ W, ((w.alloc (.cells #[.bool s, .slice ao n cap] 25)).alloc (.cells #[.bool false, .slice none 0 0] 25)) = W := ⟨_, rfl⟩
  have q00 : W.cell? ⟨w.heap.size, 0, none⟩ = some (.bool s) := by subst hW; go_simp
  have q01 : W.cell? ⟨w.heap.size, 1, none⟩ = some (.slice ao n cap) := by subst hW; go_simp
  have r00 : W.cell? ⟨w.heap.size + 1, 0, none⟩ = some (.bool false) := by subst hW; go_simp
  have r01 : W.cell? ⟨w.heap.size + 1, 1, none⟩ = some (.slice none 0 0) := by subst hW; go_simp
  have hB : Below w.heap.size w W := by subst hW; exact (((Below.refl _ _).alloc (by (try simp only [World.size_alloc]); omega) _).alloc (by (try simp only [World.size_alloc]); omega) _)
  have hR0 : Row W (w.heap.size + 1) := by
    have := row_new ((w.alloc (.cells #[.bool s, .slice ao n cap] 25))) #[.bool false, .slice none 0 0] 25
    try simp only [World.size_alloc] at this
    subst hW; exact this
  have hz : W.heap.size = w.heap.size + 1 + 1 := by subst hW; simp only [World.size_alloc]
  rw [hW]
  clear hW
  have hBW : Below W.heap.size W W := Below.refl _ _
  refine (H1.out _ (sb hS hB hBW)).mono ?_
  rintro e w41 ⟨rfl, b41⟩
  replace hBW := hBW.trans (b41.mono hBW.size)
  replace q00 := below_cell b41 q00
  replace q01 := below_cell b41 q01
  replace r00 := below_cell b41 r00
  replace r01 := below_cell b41 r01
  replace hR0 := below_row b41 hR0
  go_wp2_with fail
  go_loopw [4, 5] (fun v i wr => ∃ k r a, k ≤ S0 ∧ i = .int .i64 ((k : Int) - 1) ∧ v = .slice a (ln r) (ln r) ∧ Seg wr a r (ln r) ∧ r * r ≤ X ∧ X < (r + 2 ^ k) * (r + 2 ^ k) ∧ Below w41.heap.size w41 wr) (fun _ i _ => (intOf i + 1).toNat)
  case atStart => exact ⟨S0, 0, none, Nat.le_refl _, by first | rfl | (congr 1; omega), by rw [ln_zero], by rw [ln_zero]; exact Seg.nil _ _, by omega, HST.out, Below.refl _ _⟩
  case round =>
    obtain ⟨k, r, a, hk, rfl, rfl, sr, hr, hX, b42⟩ := hrel
    have HR := hide' hr
    have HXk := hide' hX
    have lr : ln r ≤ 17592186043905 := root_half hr HX.out (by omega)
    clear hr hX
    replace hBW := hBW.trans (b42.mono hBW.size)
    replace q00 := below_cell b42 q00
    replace q01 := below_cell b42 q01
    replace r00 := below_cell b42 r00
    replace r01 := below_cell b42 r01
    replace hR0 := below_row b42 hR0
    by_cases hlt : 0 < k
    · obtain ⟨j, rfl⟩ : ∃ j, k = j + 1 := ⟨k - 1, by omega⟩
      have hcast : ((j + 1 : Nat) : Int) - 1 = (j : Nat) := by omega
      rw [hcast]
      obtain ⟨q, hq⟩ : ∃ q, q = j / 32 := ⟨_, rfl⟩
      obtain ⟨e, he⟩ : ∃ e, e = j % 32 := ⟨_, rfl⟩
      have hqi : (j : Int) / 32 = (q : Int) := by omega
      have hei : (j : Int) % 32 = (e : Int) := by omega
      have he31 : e ≤ 31 := by omega
      have hje : 32 * q + e = j := by omega
      have hqb : q ≤ 35184372087809 := by omega
      have hp := two_le he31
      obtain ⟨E, hE⟩ : ∃ E, 2 ^ e = E := ⟨_, rfl⟩
      have h2e : ((2 : Int) ^ e) = (E : Int) := by rw [← hE]; exact (Int.natCast_pow 2 e).symm
      have hsh : IntKind.u32.wrap ((1 : Int) * 2 ^ e) = (E : Int) := by rw [IntKind.wrap_u32, Int.one_mul, h2e]; omega
      have hsh2 : IntKind.u32.wrap (E : Int) = (E : Int) := by rw [IntKind.wrap_u32]; omega
      have hew : IntKind.u64.wrap (e : Int) = (e : Int) := by rw [IntKind.wrap_u64]; omega
      have hE32 : E < 4294967296 := by omega
      clear hq he
      go_upto_region 8 with (at_make; refine mk_law _ rfl _ _ rfl _ (q + 1) rfl rfl (by go_num) (by omega) ?_; intro w43 hnew hrow)
      have hcell := hnew.seg.cells q (by omega)
      rw [Nat.zero_add] at hcell
      have hfz := fun o => hrow.frozen o
      have h4 := hnew.seg.store (i := q) (d := E) (by omega) hE32 (v := (E : Nat)) rfl
      have eP : put 0 q 1 E = 2 ^ j := by rw [← hE, put_bit, hje]
      rw [eP, Nat.zero_add] at h4
      have b43 : Below wr.heap.size wr (w43.setCell ⟨wr.heap.size, q, none⟩ (.int .u32 (E : Nat))) := hnew.below.setCell (Nat.le_refl _) _
      obtain ⟨t, ht⟩ : ∃ t, r + 2 ^ j = t := ⟨_, rfl⟩
      have hup := sq_up HXk.out
      rw [ht] at hup
      have lP : ln (2 ^ j) ≤ q + 1 := ln_le_of_lt h4.1
      have lt : ln t ≤ 35184372087812 := by rw [← ht]; exact ln_sum (Nat.lt_of_lt_of_le (ln_lt r) (pow_mono (show ln r ≤ 35184372087811 by omega))) (Nat.lt_of_lt_of_le (ln_lt _) (pow_mono (show ln (2 ^ j) ≤ 35184372087811 by omega))) (by omega) (by omega)
      have ltt : ln (t * t) ≤ 70368744175624 := Nat.le_trans (ln_prod (ln_lt t) (ln_lt t)) (by omega)
      have HA' := fun w' p (g1 : Seg w' a r (ln r)) (g2 : Seg w' p (2 ^ j) (q + 1)) => rAdd_any a p (ln r) (ln r) r (q + 1) (q + 1) (2 ^ j) w' (by omega) g1 (by omega) g2
      rw [ht] at HA'
      have HA := hide' HA'
      have HU := hide' hup
      have Ht := hide' ht
      clear HA' hup ht eP hje hE
      have bL := b42
      go_wp2_with fail
      generalize w43.setCell ⟨wr.heap.size, q, none⟩ (.int .u32 (E : Nat)) = w44 at h4 b43 ⊢
      clear hnew hrow hcell hfz hsh hsh2 hew h2e
      replace hBW := hBW.trans (b43.mono hBW.size)
      replace bL := bL.trans (b43.mono bL.size)
      replace q00 := below_cell b43 q00
      replace q01 := below_cell b43 q01
      replace r00 := below_cell b43 r00
      replace r01 := below_cell b43 r01
      replace hR0 := below_row b43 hR0
      replace sr := sr.later b43
      refine (HA.out _ _ sr h4).mono ?_
      rintro e w45 ⟨a45, rfl, h45⟩
      have b45 := h45.below
      have st := h45.seg
      clear h45 h4
      replace hBW := hBW.trans (b45.mono hBW.size)
      replace bL := bL.trans (b45.mono bL.size)
      replace q00 := below_cell b45 q00
      replace q01 := below_cell b45 q01
      replace r00 := below_cell b45 r00
      replace r01 := below_cell b45 r01
      replace hR0 := below_row b45 hR0
      replace sr := sr.later b45
      by_cases htX : t * t ≤ X
      · obtain ⟨c, hcc, hc0⟩ : ∃ c, cmpI (t * t) X = c ∧ c ≤ 0 := ⟨_, rfl, by rcases Nat.lt_or_ge (t * t) X with h | h; (rw [cmpI_lt h]; decide); (rw [cmpI_eq (by omega)]; decide)⟩
        have HC' := fun w' p (g1 : Seg w' p (t * t) (ln (t * t))) (g2 : Seg w' ao X n) => (rCmp_any p ao (ln (t * t)) (ln (t * t)) (t * t) n cap X w' (by omega) g1 (by omega) g2).mono fun e w'' ⟨he, hw⟩ => (⟨by rw [he, hcc], by rw [← hw]; exact Below.refl _ _⟩ : e = Ending.returned (Value.int .i64 c) ∧ Below w'.heap.size w' w'')
        have HC := hide' HC'
        have HtX := hide' htX
        clear HC' hcc htX
        go_wp2_with fail
        replace hBW := hBW.drew; replace bL := bL.drew
        replace sr := sr.drew
        replace st := st.drew
        first
          | go_region_held3 (fun w' => w'.cell? ⟨w.heap.size, 0, none⟩ = some (.bool s) ∧ w'.cell? ⟨w.heap.size, 1, none⟩ = some (.slice ao n cap) ∧ Below w.heap.size w w')
              (first | exact ⟨q00, q01, hB.trans (hBW.mono hB.size)⟩ | exact kp2 b46 (by assumption) | exact kp2 b47 (by assumption) | exact kp2 (below_alloc _) (by assumption) | exact kp2 (below_alloc _) ⟨q00, q01, hB.trans (hBW.mono hB.size)⟩ | exact kpT2_2 (by assumption) (by omega) (by omega) (by omega))
              (first
                | (go_at_call 37; (fail_if_success clear b46); refine (rMul_is a45 a45 (ln t) (ln t) t (ln t) (ln t) t (t * t) _ (by omega) st st rfl).mono ?_; rintro e w46 ⟨a46, rfl, h46⟩; have b46 := h46.below; replace h46 := h46.back hBW; replace hBW := hBW.trans (b46.mono hBW.size); replace bL := bL.trans (b46.mono bL.size); replace q00 := below_cell b46 q00; replace q01 := below_cell b46 q01; replace r00 := below_cell b46 r00; replace r01 := below_cell b46 r01; replace hR0 := below_row b46 hR0; replace sr := sr.later b46; replace st := st.later b46)
                | (go_at_call 36; refine (HC.out _ a46 h46.seg (sb hS hB hBW)).mono ?_; rintro e w47 ⟨rfl, b47⟩; replace hBW := hBW.trans (b47.mono hBW.size); replace bL := bL.trans (b47.mono bL.size); replace q00 := below_cell b47 q00; replace q01 := below_cell b47 q01; replace r00 := below_cell b47 r00; replace r01 := below_cell b47 r01; replace hR0 := below_row b47 hR0; replace sr := sr.later b47; replace st := st.later b47; replace h46 := h46.later b47))
          | fail
        go_wp2
        go_roundw
        case rel => exact ⟨j, t, a45, by omega, by go_num, rfl, st, HtX.out, HU.out, bL⟩
        case measure => simp [intOf]
      · obtain ⟨c, hcc, hc0⟩ : ∃ c, cmpI (t * t) X = c ∧ ¬ (c ≤ 0) := ⟨_, rfl, by rw [cmpI_gt (by omega)]; decide⟩
        have HC' := fun w' p (g1 : Seg w' p (t * t) (ln (t * t))) (g2 : Seg w' ao X n) => (rCmp_any p ao (ln (t * t)) (ln (t * t)) (t * t) n cap X w' (by omega) g1 (by omega) g2).mono fun e w'' ⟨he, hw⟩ => (⟨by rw [he, hcc], by rw [← hw]; exact Below.refl _ _⟩ : e = Ending.returned (Value.int .i64 c) ∧ Below w'.heap.size w' w'')
        have HC := hide' HC'
        have HtX := hide' htX
        clear HC' hcc htX
        go_wp2_with fail
        replace hBW := hBW.drew; replace bL := bL.drew
        replace sr := sr.drew
        replace st := st.drew
        first
          | go_region_held3 (fun w' => w'.cell? ⟨w.heap.size, 0, none⟩ = some (.bool s) ∧ w'.cell? ⟨w.heap.size, 1, none⟩ = some (.slice ao n cap) ∧ Below w.heap.size w w')
              (first | exact ⟨q00, q01, hB.trans (hBW.mono hB.size)⟩ | exact kp2 b46 (by assumption) | exact kp2 b47 (by assumption) | exact kp2 (below_alloc _) (by assumption) | exact kp2 (below_alloc _) ⟨q00, q01, hB.trans (hBW.mono hB.size)⟩ | exact kpT2_2 (by assumption) (by omega) (by omega) (by omega))
              (first
                | (go_at_call 37; (fail_if_success clear b46); refine (rMul_is a45 a45 (ln t) (ln t) t (ln t) (ln t) t (t * t) _ (by omega) st st rfl).mono ?_; rintro e w46 ⟨a46, rfl, h46⟩; have b46 := h46.below; replace h46 := h46.back hBW; replace hBW := hBW.trans (b46.mono hBW.size); replace bL := bL.trans (b46.mono bL.size); replace q00 := below_cell b46 q00; replace q01 := below_cell b46 q01; replace r00 := below_cell b46 r00; replace r01 := below_cell b46 r01; replace hR0 := below_row b46 hR0; replace sr := sr.later b46; replace st := st.later b46)
                | (go_at_call 36; refine (HC.out _ a46 h46.seg (sb hS hB hBW)).mono ?_; rintro e w47 ⟨rfl, b47⟩; replace hBW := hBW.trans (b47.mono hBW.size); replace bL := bL.trans (b47.mono bL.size); replace q00 := below_cell b47 q00; replace q01 := below_cell b47 q01; replace r00 := below_cell b47 r00; replace r01 := below_cell b47 r01; replace hR0 := below_row b47 hR0; replace sr := sr.later b47; replace st := st.later b47; replace h46 := h46.later b47))
          | fail
        go_wp2
        go_roundw
        case rel => exact ⟨j, r, a, by omega, by go_num, rfl, sr, HR.out, by rw [Ht.out]; have := HtX.out; omega, bL⟩
        case measure => simp [intOf]
    · obtain rfl : k = 0 := by omega
      have hq : isq X r := ⟨HR.out, HXk.out⟩
      obtain rfl := isq_uniq hq HQ.out
      clear hq
      go_wp2_with fail
      refine (made_g a r _ (by omega) sr).mono ?_
      rintro e w43 ⟨p43, rfl, hp43⟩
      have b43 := hp43.below
      replace hp43 := hp43.back hBW
      replace hBW := hBW.trans (b43.mono hBW.size)
      replace q00 := below_cell b43 q00
      replace q01 := below_cell b43 q01
      replace r00 := below_cell b43 r00
      replace r01 := below_cell b43 r01
      replace hR0 := below_row b43 hR0
      have fz0 := fun o => hR0.frozen o
      go_wp2
      all_goals refine bodyPost_ret (v := .tuple #[.agg #[.bool false, .slice p43 (ln r) (ln r)], .int .i64 0]) (by rw [results_ctS rfl]; go_simp) rfl ?_
      all_goals exact ⟨p43, rfl, hp43.mid hB ((((Mid.refl _ _ _).set _ _ (by omega) (by omega) _).set _ _ (by omega) (by omega) _))⟩

end Go.Proofs.Ytjdilgkjgednjaa
