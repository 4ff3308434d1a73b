import Derived.Test.YtejlnodillnoaaaGreatDoorWQ0
import Derived.Test.YtejlnodillnoaaaGreatDoorW3
set_option linter.unusedSimpArgs false
namespace Go.Proofs.YtejlnodillnoaaaGreatDoor
open Go.RowKit
set_option linter.unusedVariables false
set_option maxHeartbeats 1000000 in
theorem lnat_any (ao : Option Addr) (n cap X : Nat) (w : World) (hm : n ≤ 70368744177664) (hS : Seg w ao X n) :
    Calls Tryz.prog 18 #[.slice ao n cap] w fun e w' => ∃ ao', e = .returned (.slice ao' n n) ∧ New w w' ao' X n := by
  go_enter Tryz.func18, Tryz.ntmps18
  go_wp2_with (at_make; refine mk_law _ rfl _ _ rfl _ n rfl rfl rfl hm ?_; intro w1 hnew hrow)
  have hS1 := hS.below hnew.below (Nat.le_refl _)
  go_loopw [4] (fun i wr => ∃ k : Nat, k ≤ n ∧ i = .int .i64 k ∧ Wr w.heap.size 0 (0 + n) w1 wr ∧ Seg wr (some ⟨w.heap.size, 0, none⟩) (mix X 0 k) n) (fun i _ => n - (intOf i).toNat)
  case atStart => exact ⟨0, Nat.zero_le _, rfl, Wr.refl _ _ _ _, by rw [mix_zero]; exact hnew.seg⟩
  case round =>
    obtain ⟨k, hk, rfl, hwr, hseg⟩ := hrel
    have hlt1 := hrow.lt
    by_cases hlt : k < n
    · have hyr := hS1.wr hwr (hS.ne_new (by omega) (Nat.le_refl _))
      obtain ⟨b2, off2, rfl, hb2, hcell2⟩ := hyr.2 (by omega)
      have hcx := hseg.rest k (Nat.le_refl _) hlt
      rw [Nat.zero_add] at hcx
      have hfz := fun o => (hwr.row hrow).frozen o
      go_wp2
      go_roundw
      case rel =>
        refine ⟨k + 1, by omega, by go_num, ?_, ?_⟩
        · have := hwr.setCell (0 + k) (by omega) (by omega) (.int .u32 (dg X k : Nat))
          simpa using this
        · have := hseg.set hlt (BBp n) (v := (dg X k : Nat)) rfl
          simpa using this
      case measure => simp [intOf]; omega
    · have e : k = n := by omega
      subst e
      go_wp2
      go_ret
      rw [mix_nought hS.1] at hseg
      exact ⟨_, rfl, hseg, hnew.below.trans (hwr.below (Nat.le_refl _) hnew.below.size), fun _ => ⟨_, _, rfl, Nat.le_refl _, hwr.row hrow⟩⟩
set_option maxHeartbeats 1000000 in
theorem lwhole_is (s : Bool) (ao : Option Addr) (n cap X : Nat) (w : World) (hm : n ≤ 70368744177664) (hS : Seg w ao X n) :
    Calls Tryz.prog 30 #[.agg #[.bool s, .slice ao n cap]] w fun e w' => ∃ ao', e = .returned (.agg #[.bool s, .slice ao' n n]) ∧ New w w' ao' X n := by
  go_enter Tryz.func30, Tryz.ntmps30
  go_wp2_with fail
  obtain ⟨W, hW⟩ : ∃ W, ((w.alloc (.cells #[.bool s, .slice ao n cap] 25)).alloc (.cells #[.bool false, .slice none 0 0] 25)) = W := ⟨_, rfl⟩
  have q00 : W.cell? ⟨w.heap.size, 0, none⟩ = some (.bool s) := by subst hW; go_simp
  have q01 : W.cell? ⟨w.heap.size, 1, none⟩ = some (.slice ao n cap) := by subst hW; go_simp
  have r00 : W.cell? ⟨w.heap.size + 1, 0, none⟩ = some (.bool false) := by subst hW; go_simp
  have r01 : W.cell? ⟨w.heap.size + 1, 1, none⟩ = some (.slice none 0 0) := by subst hW; go_simp
  have hB : Below w.heap.size w W := by subst hW; exact (((Below.refl _ _).alloc (by (try simp only [World.size_alloc]); omega) _).alloc (by (try simp only [World.size_alloc]); omega) _)
  have hR0 : Row W (w.heap.size + 1) := by
    have := row_new ((w.alloc (.cells #[.bool s, .slice ao n cap] 25))) #[.bool false, .slice none 0 0] 25
    try simp only [World.size_alloc] at this
    subst hW; exact this
  have hz : W.heap.size = w.heap.size + 1 + 1 := by subst hW; simp only [World.size_alloc]
  rw [hW]
  clear hW
  have hBW : Below W.heap.size W W := Below.refl _ _
  replace hBW := hBW.drew
  first
    | go_region_held3 (fun w' => w'.cell? ⟨w.heap.size, 0, none⟩ = some (.bool s) ∧ w'.cell? ⟨w.heap.size, 1, none⟩ = some (.slice ao n cap) ∧ Below w.heap.size w w')
        (first | exact ⟨q00, q01, hB.trans (hBW.mono hB.size)⟩ | exact kp2 b1 (by assumption) | exact kp2 (below_alloc _) (by assumption) | exact kp2 (below_alloc _) ⟨q00, q01, hB.trans (hBW.mono hB.size)⟩ | exact kpT2_2 (by assumption) (by omega) (by omega) (by omega))
        (first
          | (go_at_call 18; (fail_if_success clear b1); refine (lnat_any ao n cap X _ hm (sb hS hB hBW)).mono ?_; rintro e w1 ⟨a1, rfl, hn⟩; have b1 := hn.below; replace hn := hn.back hBW; replace hBW := hBW.trans (b1.mono hBW.size); replace q00 := below_cell b1 q00; replace q01 := below_cell b1 q01; replace r00 := below_cell b1 r00; replace r01 := below_cell b1 r01; replace hR0 := below_row b1 hR0; have fz := fun o => hR0.frozen o))
    | fail
  have fz0 := fun o => hR0.frozen o
  go_wp2
  all_goals refine bodyPost_ret (v := .agg #[.bool s, .slice a1 n n]) (by rw [results_cell rfl]; go_simp) rfl ?_
  all_goals exact ⟨a1, rfl, hn.mid hB ((((Mid.refl _ _ _).set _ _ (by omega) (by omega) _).set _ _ (by omega) (by omega) _))⟩
set_option maxHeartbeats 2000000 in
theorem ltwin_is (s0 : Bool) (a0 : Option Addr) (n0 c0 X0 : Nat) (b0 : Option Addr) (m0 d0 Y0 : Nat) (w : World) (hc0 : n0 ≤ c0) (hm0 : n0 ≤ 70368744177664) (hS0 : Seg w a0 X0 n0) (hd0 : m0 ≤ d0) (hk0 : m0 ≤ 70368744177664) (hT0 : Seg w b0 Y0 m0) :
    Calls Tryz.prog 8 #[Value.agg #[Value.bool s0, Value.slice a0 n0 c0, Value.slice b0 m0 d0]] w fun e w' => ∃ p q, e = .returned (.agg #[.bool s0, .slice p n0 n0, .slice q m0 m0]) ∧ New w w' p X0 n0 ∧ New w w' q Y0 m0 := by
  go_enter Tryz.func8, Tryz.ntmps8
  go_wp2_with fail
  obtain ⟨W, hW⟩ : ∃ W, ((w.alloc (.cells #[.bool s0, .slice a0 n0 c0, .slice b0 m0 d0] 27)).alloc (.cells #[.bool false, .slice none 0 0, .slice none 0 0] 27)) = W := ⟨_, rfl⟩
  have q00 : W.cell? ⟨w.heap.size, 0, none⟩ = some (.bool s0) := by subst hW; go_simp
  have q01 : W.cell? ⟨w.heap.size, 1, none⟩ = some (.slice a0 n0 c0) := by subst hW; go_simp
  have q02 : W.cell? ⟨w.heap.size, 2, none⟩ = some (.slice b0 m0 d0) := by subst hW; go_simp
  have r00 : W.cell? ⟨w.heap.size + 1, 0, none⟩ = some (.bool false) := by subst hW; go_simp
  have r01 : W.cell? ⟨w.heap.size + 1, 1, none⟩ = some (.slice none 0 0) := by subst hW; go_simp
  have r02 : W.cell? ⟨w.heap.size + 1, 2, none⟩ = some (.slice none 0 0) := by subst hW; go_simp
  have hB : Below w.heap.size w W := by subst hW; exact (((Below.refl _ _).alloc (by (try simp only [World.size_alloc]); omega) _).alloc (by (try simp only [World.size_alloc]); omega) _)
  have hR0 : Row W (w.heap.size + 1) := by
    have := row_new ((w.alloc (.cells #[.bool s0, .slice a0 n0 c0, .slice b0 m0 d0] 27))) #[.bool false, .slice none 0 0, .slice none 0 0] 27
    try simp only [World.size_alloc] at this
    subst hW; exact this
  have hz : W.heap.size = w.heap.size + 1 + 1 := by subst hW; simp only [World.size_alloc]
  rw [hW]
  clear hW
  have hBW : Below W.heap.size W W := Below.refl _ _
  replace hBW := hBW.drew
  first
    | go_region_held3 (fun w' => w'.cell? ⟨w.heap.size, 0, none⟩ = some (.bool s0) ∧ w'.cell? ⟨w.heap.size, 1, none⟩ = some (.slice a0 n0 c0) ∧ w'.cell? ⟨w.heap.size, 2, none⟩ = some (.slice b0 m0 d0) ∧ Below w.heap.size w w')
        (first | exact ⟨q00, q01, q02, hB.trans (hBW.mono hB.size)⟩ | exact kp3 b41 (by assumption) | exact kp3 b42 (by assumption) | exact kp3 (below_alloc _) (by assumption) | exact kp3 (below_alloc _) ⟨q00, q01, q02, hB.trans (hBW.mono hB.size)⟩ | exact kpT3_3 (by assumption) (by omega) (by omega) (by omega) (by omega))
        (first
          | (go_at_call 30; (fail_if_success clear b41); refine (lwhole_is s0 a0 n0 c0 X0 _ hm0 (sb hS0 hB hBW)).mono ?_; rintro e w41 ⟨a41, rfl, hn⟩; have b41 := hn.below; replace hn := hn.back hBW; replace hBW := hBW.trans (b41.mono hBW.size); replace q00 := below_cell b41 q00; replace q01 := below_cell b41 q01; replace q02 := below_cell b41 q02; replace r00 := below_cell b41 r00; replace r01 := below_cell b41 r01; replace r02 := below_cell b41 r02; replace hR0 := below_row b41 hR0)
          | (go_at_call 18; (fail_if_success clear b42); refine (lnat_any b0 m0 d0 Y0 _ hk0 (sb hT0 hB hBW)).mono ?_; rintro e w42 ⟨a42, rfl, hk⟩; have b42 := hk.below; replace hk := hk.back hBW; replace hBW := hBW.trans (b42.mono hBW.size); replace q00 := below_cell b42 q00; replace q01 := below_cell b42 q01; replace q02 := below_cell b42 q02; replace r00 := below_cell b42 r00; replace r01 := below_cell b42 r01; replace r02 := below_cell b42 r02; replace hR0 := below_row b42 hR0; replace hn := hn.later b42; have fz := fun o => hR0.frozen o))
    | fail
  have fz0 := fun o => hR0.frozen o
  go_wp2
  all_goals refine bodyPost_ret (v := .agg #[.bool s0, .slice a41 n0 n0, .slice a42 m0 m0]) (by rw [results_cell rfl]; go_simp) rfl ?_
  all_goals exact ⟨a41, a42, rfl, hn.mid hB (((((Mid.refl _ _ _).set _ _ (by omega) (by omega) _).set _ _ (by omega) (by omega) _).set _ _ (by omega) (by omega) _)), hk.mid hB (((((Mid.refl _ _ _).set _ _ (by omega) (by omega) _).set _ _ (by omega) (by omega) _).set _ _ (by omega) (by omega) _))⟩
set_option maxHeartbeats 2000000 in
set_option maxRecDepth 30000 in
theorem SameQ_is (Z : Int) (V : Nat) (p q p2 q2 : Option Addr) (w : World) (hm : ln (am Z) ≤ 70368744177664) (hm2 : ln V ≤ 70368744177664) (hS : Seg w p (am Z) (ln (am Z))) (hT : Seg w q V (ln V)) (hS2 : Seg w p2 (am Z) (ln (am Z))) (hT2 : Seg w q2 V (ln V)) :
    Calls Tryz.prog 39 #[.agg #[.bool (ng Z), .slice p (ln (am Z)) (ln (am Z)), .slice q (ln V) (ln V)], .agg #[.bool (ng Z), .slice p2 (ln (am Z)) (ln (am Z)), .slice q2 (ln V) (ln V)]] w fun e w' => e = .returned (.bool true) ∧ Below w.heap.size w w' := by
  have hs := sameB_self (ln (am Z)) (am Z)
  have hs2 := sameB_self (ln V) V
  have hbb : (ng Z == ng Z) = true := by simp
  have H1 := hide' (fun w' k1 k2 => Same_any p p2 (ln (am Z)) (ln (am Z)) (am Z) (ln (am Z)) (ln (am Z)) (am Z) w' hm hm k1 k2)
  have H2 := hide' (fun w' k1 k2 => Same_any q q2 (ln V) (ln V) V (ln V) (ln V) V w' hm2 hm2 k1 k2)
  go_enter Tryz.func39, Tryz.ntmps39
  go_wp2_with fail
  obtain ⟨W, hW⟩ : ∃ W, ((w.alloc (.cells #[.bool (ng Z), .slice p (ln (am Z)) (ln (am Z)), .slice q (ln V) (ln V)] 27)).alloc (.cells #[.bool (ng Z), .slice p2 (ln (am Z)) (ln (am Z)), .slice q2 (ln V) (ln V)] 27)) = W := ⟨_, rfl⟩
  have q00 : W.cell? ⟨w.heap.size, 0, none⟩ = some (.bool (ng Z)) := by subst hW; go_simp
  have q01 : W.cell? ⟨w.heap.size, 1, none⟩ = some (.slice p (ln (am Z)) (ln (am Z))) := by subst hW; go_simp
  have q02 : W.cell? ⟨w.heap.size, 2, none⟩ = some (.slice q (ln V) (ln V)) := by subst hW; go_simp
  have q10 : W.cell? ⟨w.heap.size + 1, 0, none⟩ = some (.bool (ng Z)) := by subst hW; go_simp
  have q11 : W.cell? ⟨w.heap.size + 1, 1, none⟩ = some (.slice p2 (ln (am Z)) (ln (am Z))) := by subst hW; go_simp
  have q12 : W.cell? ⟨w.heap.size + 1, 2, none⟩ = some (.slice q2 (ln V) (ln V)) := by subst hW; go_simp
  have hB : Below w.heap.size w W := by subst hW; exact (((Below.refl _ _).alloc (by (try simp only [World.size_alloc]); omega) _).alloc (by (try simp only [World.size_alloc]); omega) _)
  have hz : W.heap.size = w.heap.size + 1 + 1 := by subst hW; simp only [World.size_alloc]
  rw [hW]
  clear hW
  have hBW : Below W.heap.size W W := Below.refl _ _
  refine (H1.out _ (sb hS hB hBW) (sb hS2 hB hBW)).mono ?_
  rintro e w41 ⟨rfl, dd41⟩
  have b41 := dd41.below W.heap.size
  replace hBW := hBW.trans (b41.mono hBW.size)
  replace q00 := below_cell b41 q00
  replace q01 := below_cell b41 q01
  replace q02 := below_cell b41 q02
  replace q10 := below_cell b41 q10
  replace q11 := below_cell b41 q11
  replace q12 := below_cell b41 q12
  go_wp2_with fail
  refine (H2.out _ (sb hT hB hBW) (sb hT2 hB hBW)).mono ?_
  rintro e w42 ⟨rfl, dd42⟩
  have b42 := dd42.below w41.heap.size
  replace hBW := hBW.trans (b42.mono hBW.size)
  replace q00 := below_cell b42 q00
  replace q01 := below_cell b42 q01
  replace q02 := below_cell b42 q02
  replace q10 := below_cell b42 q10
  replace q11 := below_cell b42 q11
  replace q12 := below_cell b42 q12
  go_wp2
  go_ret
  exact ⟨rfl, hB.trans (hBW.mono hB.size)⟩
set_option maxHeartbeats 2000000 in
theorem sameQ_is (Z : Int) (V : Nat) (p q p2 q2 : Option Addr) (w : World) (hm : ln (am Z) ≤ 70368744177664) (hm2 : ln V ≤ 70368744177664) (hS : Seg w p (am Z) (ln (am Z))) (hT : Seg w q V (ln V)) (hS2 : Seg w p2 (am Z) (ln (am Z))) (hT2 : Seg w q2 V (ln V)) :
    Calls Tryz.prog 10 #[.agg #[.bool (ng Z), .slice p (ln (am Z)) (ln (am Z)), .slice q (ln V) (ln V)], .agg #[.bool (ng Z), .slice p2 (ln (am Z)) (ln (am Z)), .slice q2 (ln V) (ln V)]] w fun e w' => e = .returned (.bool true) ∧ Below w.heap.size w w' := by
  go_enter Tryz.func10, Tryz.ntmps10
  go_wp2_with fail
  obtain ⟨W, hW⟩ : ∃ W, ((w.alloc (.cells #[.bool (ng Z), .slice p (ln (am Z)) (ln (am Z)), .slice q (ln V) (ln V)] 27)).alloc (.cells #[.bool (ng Z), .slice p2 (ln (am Z)) (ln (am Z)), .slice q2 (ln V) (ln V)] 27)) = W := ⟨_, rfl⟩
  have q00 : W.cell? ⟨w.heap.size, 0, none⟩ = some (.bool (ng Z)) := by subst hW; go_simp
  have q01 : W.cell? ⟨w.heap.size, 1, none⟩ = some (.slice p (ln (am Z)) (ln (am Z))) := by subst hW; go_simp
  have q02 : W.cell? ⟨w.heap.size, 2, none⟩ = some (.slice q (ln V) (ln V)) := by subst hW; go_simp
  have q10 : W.cell? ⟨w.heap.size + 1, 0, none⟩ = some (.bool (ng Z)) := by subst hW; go_simp
  have q11 : W.cell? ⟨w.heap.size + 1, 1, none⟩ = some (.slice p2 (ln (am Z)) (ln (am Z))) := by subst hW; go_simp
  have q12 : W.cell? ⟨w.heap.size + 1, 2, none⟩ = some (.slice q2 (ln V) (ln V)) := by subst hW; go_simp
  have hB : Below w.heap.size w W := by subst hW; exact (((Below.refl _ _).alloc (by (try simp only [World.size_alloc]); omega) _).alloc (by (try simp only [World.size_alloc]); omega) _)
  have hz : W.heap.size = w.heap.size + 1 + 1 := by subst hW; simp only [World.size_alloc]
  rw [hW]
  clear hW
  have hBW : Below W.heap.size W W := Below.refl _ _
  refine (SameQ_is Z V p q p2 q2 _ hm hm2 (sb hS hB hBW) (sb hT hB hBW) (sb hS2 hB hBW) (sb hT2 hB hBW)).mono ?_
  rintro e w41 ⟨rfl, b41⟩
  replace hBW := hBW.trans (b41.mono hBW.size)
  replace q00 := below_cell b41 q00
  replace q01 := below_cell b41 q01
  replace q02 := below_cell b41 q02
  replace q10 := below_cell b41 q10
  replace q11 := below_cell b41 q11
  replace q12 := below_cell b41 q12
  go_wp2
  go_ret
  exact ⟨rfl, hB.trans (hBW.mono hB.size)⟩
end Go.Proofs.YtejlnodillnoaaaGreatDoor
