/-
  RatioNorms.
-/
import Derived.Test.YtgoocgecigkblaaGreatDoorWQB
import Derived.Test.YtgoocgecigkblaaGreatDoorWQD
import Derived.Test.YtgoocgecigkblaaGreatDoorWQE
import Derived.Test.YtgoocgecigkblaaGreatDoorWQA
import Derived.Test.YtgoocgecigkblaaGreatDoorWH3
import Derived.Test.YtgoocgecigkblaaGreatDoorOpenQ
import Derived.Test.YtgoocgecigkblaaGreatDoorCards
import Derived.Test.YtgoocgecigkblaaGreatDoorTie
import Derived.Deep.DeepHandedRow
import Derived.Lib.LaidTab
namespace Go.Proofs.YtgoocgecigkblaaGreatDoor
open Go.RowKit
theorem al3 {X w1 : World} {u0 u1 u2 : Value} {t : TypeId} (b : Below (X.alloc (.cells #[u0, u1, u2] t)).heap.size (X.alloc (.cells #[u0, u1, u2] t)) w1) : w1.cell? ⟨X.heap.size, 0, none⟩ = some u0 ∧ w1.cell? ⟨X.heap.size, 1, none⟩ = some u1 ∧ w1.cell? ⟨X.heap.size, 2, none⟩ = some u2 ∧ Row w1 X.heap.size :=
  ⟨below_cell b (by go_simp), below_cell b (by go_simp), below_cell b (by go_simp), below_row b (row_new X _ t)⟩
theorem New.seg3 {w1 w3 : World} {p : Option Addr} {Z n c : Nat} (h : New w1 w3 p Z n) (hc : c < w1.heap.size) (u v x : Value) : Seg (((w3.setCell ⟨c, 0, none⟩ u).setCell ⟨c, 1, none⟩ v).setCell ⟨c, 2, none⟩ x) p Z n :=
  (h.fre.mid ((((Mid.refl 0 w1.heap.size w3).set c 0 (Nat.zero_le _) hc u).set c 1 (Nat.zero_le _) hc v).set c 2 (Nat.zero_le _) hc x)).seg
end Go.Proofs.YtgoocgecigkblaaGreatDoor
namespace Go.Proofs.YtgoocgecigkblaaGreatDoor.ratioNorms
open Go.ChangeShapes Go.WideShapes Go.ChangeAt Go.RowKit Go.Proofs.YtgoocgecigkblaaGreatDoor
set_option linter.unusedVariables false

set_option maxHeartbeats 8000000 in
set_option maxRecDepth 100000 in
theorem walk_zero (s0 : Bool) (a0 : Option Addr) (n0 c0 X0 : Nat) (b0 : Option Addr) (m0 d0 Y0 : Nat) (s1 : Bool) (a1 : Option Addr) (n1 c1 X1 : Nat) (z : Int) (w : World) (hc0 : n0 ≤ c0) (hm0 : n0 ≤ 35184372087808) (hS0 : Seg w a0 X0 n0) (hd0 : m0 ≤ d0) (hk0 : m0 ≤ 35184372087808) (hT0 : Seg w b0 Y0 m0) (hS1 : Seg w a1 X1 n1) (hc1 : n1 ≤ c1) (hm1 : n1 ≤ 35184372087808) (hz1 : -9223372036854775808 ≤ z) (hz2 : z ≤ 9223372036854775807) (hDg : Digits w) (h0 : X1 = 0) :
    Calls Tryz.prog 3 #[Value.agg #[Value.bool s0, Value.slice a0 n0 c0, Value.slice b0 m0 d0], .agg #[.bool s1, .slice a1 n1 c1], .int .i64 z] w fun e w' => e = .returned (.bool true) ∧ Below w.heap.size w w' := by
  obtain ⟨Z1, V1, h1⟩ := low_ex (rn s0 X0 Y0) (rd Y0 : Nat) (rd_ne Y0)
  obtain ⟨lZ1, lV1⟩ := low_ln hS0.1 hT0.1 h1
  have lz : ln (am z) ≤ 2 := ln_le_of_lt (by rw [BB2]; unfold am; omega)
  have lo : ln 1 ≤ 2 := by rw [ln_one]; omega
  obtain ⟨C, hC⟩ : ∃ C, sgn (rn s0 X0 Y0) = C := ⟨_, rfl⟩
  obtain ⟨O1, hO1⟩ : ∃ O1 : Nat, 1 = O1 := ⟨_, rfl⟩
  rw [hO1] at lo
  have HW : ∀ w', Calls Tryz.prog 10 #[.int .i64 z] w' fun e w'' => ∃ p q, e = .returned (.agg #[.bool (ng z), .slice p (ln (am z)) (ln (am z)), .slice q (ln O1) (ln O1)]) ∧ New w' w'' p (am z) (ln (am z)) ∧ New w' w'' q O1 (ln O1) := fun w' => by subst hO1; exact qWhole_is z w' hz1 hz2
  have HV : ∀ w', Calls Tryz.prog 11 #[.int .i64 z] w' fun e w'' => ∃ p q, e = .returned (.agg #[.bool (ng z), .slice p (ln (am z)) (ln (am z)), .slice q (ln O1) (ln O1)]) ∧ New w' w'' p (am z) (ln (am z)) ∧ New w' w'' q O1 (ln O1) := fun w' => by subst hO1; exact vqWhole_is z w' hz1 hz2
  have GW := hide' HW
  have GV := hide' HV
  have G1 := hide' h1
  have GC := hide' hC
  have GD := hide' hDg
  clear HW HV h1 hC hO1 hDg
  subst h0
  go_enter Tryz.func3, Tryz.ntmps3
  go_wp2_with fail
  obtain ⟨W, hW⟩ : ∃ W, ((w.alloc (.cells #[.bool s0, .slice a0 n0 c0, .slice b0 m0 d0] 27)).alloc (.cells #[.bool s1, .slice a1 n1 c1] 25)) = W := ⟨_, rfl⟩
  have q00 : W.cell? ⟨w.heap.size, 0, none⟩ = some (.bool s0) := by subst hW; go_simp
  have q01 : W.cell? ⟨w.heap.size, 1, none⟩ = some (.slice a0 n0 c0) := by subst hW; go_simp
  have q02 : W.cell? ⟨w.heap.size, 2, none⟩ = some (.slice b0 m0 d0) := by subst hW; go_simp
  have q10 : W.cell? ⟨w.heap.size + 1, 0, none⟩ = some (.bool s1) := by subst hW; go_simp
  have q11 : W.cell? ⟨w.heap.size + 1, 1, none⟩ = some (.slice a1 n1 c1) := by subst hW; go_simp
  have hB : Below w.heap.size w W := by subst hW; exact (((Below.refl _ _).alloc (by (try simp only [World.size_alloc]); omega) _).alloc (by (try simp only [World.size_alloc]); omega) _)
  have hz : W.heap.size = w.heap.size + 1 + 1 := by subst hW; simp only [World.size_alloc]
  rw [hW]
  clear hW
  have hBW : Below W.heap.size W W := Below.refl _ _
  replace hBW := hBW.drew
  first
    | go_region_held3 (fun w' => w'.cell? ⟨w.heap.size, 0, none⟩ = some (.bool s0) ∧ w'.cell? ⟨w.heap.size, 1, none⟩ = some (.slice a0 n0 c0) ∧ w'.cell? ⟨w.heap.size, 2, none⟩ = some (.slice b0 m0 d0) ∧ w'.cell? ⟨w.heap.size + 1, 0, none⟩ = some (.bool s1) ∧ w'.cell? ⟨w.heap.size + 1, 1, none⟩ = some (.slice a1 n1 c1) ∧ Below w.heap.size w w')
        (first | exact ⟨q00, q01, q02, q10, q11, hB.trans (hBW.mono hB.size)⟩ | exact kp5 b41 (by assumption) | exact kp5 b42 (by assumption) | exact kp5 b43 (by assumption) | exact kp5 b44 (by assumption) | exact kp5 b45 (by assumption) | exact kp5 b46 (by assumption) | exact kp5 b47 (by assumption) | exact kp5 b48 (by assumption) | exact kp5 b49 (by assumption) | exact kp5 b50 (by assumption) | exact kp5 (below_alloc _) (by assumption))
        (first
          | (go_at_call 8; go_at_call_of 8 (Value.agg #[Value.bool s0, Value.slice a0 n0 c0, Value.slice b0 m0 d0]); (fail_if_success clear b41); refine (ltwin_is s0 a0 n0 c0 X0 b0 m0 d0 Y0 _ hc0 (by omega) (sb hS0 hB hBW) hd0 (by omega) (sb hT0 hB hBW)).mono ?_; rintro e w41 ⟨p41, q41, rfl, hp41, hq41⟩; have b41 := hp41.below; replace hp41 := hp41.back hBW; replace hq41 := hq41.back hBW; replace hBW := hBW.trans (b41.mono hBW.size); replace q00 := below_cell b41 q00; replace q01 := below_cell b41 q01; replace q02 := below_cell b41 q02; replace q10 := below_cell b41 q10; replace q11 := below_cell b41 q11)
          | (go_at_call 7; (fail_if_success clear b42); refine (qNorm_is s0 p41 n0 n0 X0 q41 m0 m0 Y0 Z1 V1 _ (Nat.le_refl _) (by omega) hp41.seg (Nat.le_refl _) (by omega) hq41.seg G1.out).mono ?_; rintro e w42 ⟨p42, q42, rfl, hp42, hq42⟩; have b42 := hp42.below; replace hp42 := hp42.back hBW; replace hq42 := hq42.back hBW; replace hBW := hBW.trans (b42.mono hBW.size); replace q00 := below_cell b42 q00; replace q01 := below_cell b42 q01; replace q02 := below_cell b42 q02; replace q10 := below_cell b42 q10; replace q11 := below_cell b42 q11; replace hp41 := hp41.later b42; replace hq41 := hq41.later b42; clear hp41 hq41)
          | (go_at_call 9; (fail_if_success clear b43); refine (vqNorm_is s0 a0 n0 c0 X0 b0 m0 d0 Y0 V1 Z1 _ (by omega) (sb hS0 hB hBW) (by omega) (sb hT0 hB hBW) G1.out).mono ?_; rintro e w43 ⟨p43, q43, rfl, hp43, hq43⟩; have b43 := hp43.below; replace hp43 := hp43.back hBW; replace hq43 := hq43.back hBW; replace hBW := hBW.trans (b43.mono hBW.size); replace q00 := below_cell b43 q00; replace q01 := below_cell b43 q01; replace q02 := below_cell b43 q02; replace q10 := below_cell b43 q10; replace q11 := below_cell b43 q11; replace hp42 := hp42.later b43; replace hq42 := hq42.later b43)
          | (go_at_call 6; go_at_call_of 6 (Value.agg #[Value.bool (ng Z1), Value.slice p42 (ln (am Z1)) (ln (am Z1)), Value.slice q42 (ln V1) (ln V1)]); refine (sameQ_is Z1 V1 p42 q42 p43 q43 _ (by omega) (by omega) hp42.seg hq42.seg hp43.seg hq43.seg).mono ?_; rintro e w44 ⟨rfl, b44⟩; replace hBW := hBW.trans (b44.mono hBW.size); replace q00 := below_cell b44 q00; replace q01 := below_cell b44 q01; replace q02 := below_cell b44 q02; replace q10 := below_cell b44 q10; replace q11 := below_cell b44 q11; replace hp42 := hp42.later b44; replace hq42 := hq42.later b44; replace hp43 := hp43.later b44; replace hq43 := hq43.later b44; clear hp42 hq42 hp43 hq43)
          | (go_at_call 10; (fail_if_success clear b45); refine (GW.out _).mono ?_; rintro e w45 ⟨p45, q45, rfl, hp45, hq45⟩; have b45 := hp45.below; replace hp45 := hp45.back hBW; replace hq45 := hq45.back hBW; replace hBW := hBW.trans (b45.mono hBW.size); replace q00 := below_cell b45 q00; replace q01 := below_cell b45 q01; replace q02 := below_cell b45 q02; replace q10 := below_cell b45 q10; replace q11 := below_cell b45 q11)
          | (go_at_call 11; (fail_if_success clear b46); refine (GV.out _).mono ?_; rintro e w46 ⟨p46, q46, rfl, hp46, hq46⟩; have b46 := hp46.below; replace hp46 := hp46.back hBW; replace hq46 := hq46.back hBW; replace hBW := hBW.trans (b46.mono hBW.size); replace q00 := below_cell b46 q00; replace q01 := below_cell b46 q01; replace q02 := below_cell b46 q02; replace q10 := below_cell b46 q10; replace q11 := below_cell b46 q11; replace hp45 := hp45.later b46; replace hq45 := hq45.later b46)
          | (go_at_call 6; go_at_call_of 6 (Value.agg #[Value.bool (ng z), Value.slice p45 (ln (am z)) (ln (am z)), Value.slice q45 (ln O1) (ln O1)]); refine (sameQ_is z O1 p45 q45 p46 q46 _ (by omega) (by omega) hp45.seg hq45.seg hp46.seg hq46.seg).mono ?_; rintro e w47 ⟨rfl, b47⟩; replace hBW := hBW.trans (b47.mono hBW.size); replace q00 := below_cell b47 q00; replace q01 := below_cell b47 q01; replace q02 := below_cell b47 q02; replace q10 := below_cell b47 q10; replace q11 := below_cell b47 q11; replace hp45 := hp45.later b47; replace hq45 := hq45.later b47; replace hp46 := hp46.later b47; replace hq46 := hq46.later b47; clear hp45 hq45 hp46 hq46)
          | (go_at_call 8; go_at_call_of 8 (Value.agg #[Value.bool s0, Value.slice a0 n0 c0, Value.slice b0 m0 d0]); (fail_if_success clear b48); refine (ltwin_is s0 a0 n0 c0 X0 b0 m0 d0 Y0 _ hc0 (by omega) (sb hS0 hB hBW) hd0 (by omega) (sb hT0 hB hBW)).mono ?_; rintro e w48 ⟨p48, q48, rfl, hp48, hq48⟩; have b48 := hp48.below; replace hp48 := hp48.back hBW; replace hq48 := hq48.back hBW; replace hBW := hBW.trans (b48.mono hBW.size); replace q00 := below_cell b48 q00; replace q01 := below_cell b48 q01; replace q02 := below_cell b48 q02; replace q10 := below_cell b48 q10; replace q11 := below_cell b48 q11)
          | (go_at_call 12; refine (qSign_is s0 p48 n0 n0 X0 q48 m0 m0 Y0 C _ (Nat.le_refl _) (by omega) hp48.seg (Nat.le_refl _) (by omega) hq48.seg GC.out).mono ?_; rintro e w49 ⟨rfl, b49⟩; replace hBW := hBW.trans (b49.mono hBW.size); replace q00 := below_cell b49 q00; replace q01 := below_cell b49 q01; replace q02 := below_cell b49 q02; replace q10 := below_cell b49 q10; replace q11 := below_cell b49 q11; replace hp48 := hp48.later b49; replace hq48 := hq48.later b49; clear hp48 hq48)
          | (go_at_call 13; refine (vqSign_is s0 a0 n0 c0 X0 b0 m0 d0 Y0 C _ hc0 (by omega) (sb hS0 hB hBW) hd0 (by omega) (sb hT0 hB hBW) GC.out).mono ?_; rintro e w50 ⟨rfl, b50⟩; replace hBW := hBW.trans (b50.mono hBW.size); replace q00 := below_cell b50 q00; replace q01 := below_cell b50 q01; replace q02 := below_cell b50 q02; replace q10 := below_cell b50 q10; replace q11 := below_cell b50 q11))
    | fail
  go_upto_region 3 with fail
  have hz3 := Nat.le_of_eq hz
  have hz4 := Nat.le_of_eq hz.symm
  clear hz
  have hsW := hBW.size
  replace hB := hB.trans (hBW.mono hB.size)
  clear hBW
  have hBW : Below w50.heap.size w50 w50 := Below.refl _ _
  go_cut [7, 8] from 34 to 42 (fun s7 s8 wx => ∃ c, s7 = .pointer (some ⟨c, 0, none⟩) ∧ s8 = .int .i64 11 ∧ w50.heap.size ≤ c ∧ wx.cell? ⟨c, 0, none⟩ = some (.bool false) ∧ wx.cell? ⟨c, 1, none⟩ = some (.slice none 0 0) ∧ wx.cell? ⟨c, 2, none⟩ = some (.slice none 0 0) ∧ Below w50.heap.size w50 wx)
  case first =>
    replace hBW := hBW.drew
    first
      | go_region_held3 (fun w' => w'.cell? ⟨w.heap.size, 0, none⟩ = some (.bool s0) ∧ w'.cell? ⟨w.heap.size, 1, none⟩ = some (.slice a0 n0 c0) ∧ w'.cell? ⟨w.heap.size, 2, none⟩ = some (.slice b0 m0 d0) ∧ w'.cell? ⟨w.heap.size + 1, 0, none⟩ = some (.bool s1) ∧ w'.cell? ⟨w.heap.size + 1, 1, none⟩ = some (.slice a1 n1 c1) ∧ Below w.heap.size w w')
          (first | exact ⟨q00, q01, q02, q10, q11, hB.trans (hBW.mono hB.size)⟩ | exact kp5 b61 (by assumption) | exact kp5 b62 (by assumption) | exact kp5 b63 (by assumption) | exact kp5 (below_alloc _) (by assumption) | exact kp5 (below_alloc _) ⟨q00, q01, q02, q10, q11, hB.trans (hBW.mono hB.size)⟩ | exact kpT5_3 (by assumption) (by omega) (by omega) (by omega) (by omega) (by omega) (by omega))
          (first
            | (go_at_call 15; go_at_call_of 15 (Value.agg #[Value.bool s0, Value.slice a0 n0 c0]); (fail_if_success clear b61); refine Calls.mono (lwhole_is s0 a0 n0 c0 X0 _ (by omega) (by first | exact (sb hS0 hB hBW) | exact ((sb hS0 hB hBW)).later (below_alloc _))) ?_; rintro e w61 ⟨a61, rfl, h61⟩; have b61 := h61.below; (try replace b61 := un_drew b61); (try ((fail_if_success (have hh := laR)); obtain ⟨la0, la1, la2, laR⟩ := al3 b61; have lage := hBW.size; have lac := lt_al (w := _) (o := _) (Nat.le_refl _) b61; (try simp only [size_drew] at la0 la1 la2 laR lage lac); replace b61 := below_al b61)); (try (have lac := laR.lt; replace la0 := below_cell b61 la0; replace la1 := below_cell b61 la1; replace la2 := below_cell b61 la2; replace laR := below_row b61 laR)); (try (have laf := fun o => laR.frozen o)); have k1 := h61.seg; clear h61; replace hBW := hBW.trans (b61.mono hBW.size); replace q00 := below_cell b61 q00; replace q01 := below_cell b61 q01; replace q02 := below_cell b61 q02; replace q10 := below_cell b61 q10; replace q11 := below_cell b61 q11)
            | (go_at_call 15; go_at_call_of 15 (Value.agg #[Value.bool s1, Value.slice a1 n1 c1]); (fail_if_success clear b62); refine Calls.mono (lwhole_is s1 a1 n1 c1 0 _ (by omega) (by first | exact (sb hS1 hB hBW) | exact ((sb hS1 hB hBW)).later (below_alloc _))) ?_; rintro e w62 ⟨a62, rfl, h62⟩; have b62 := h62.below; (try replace b62 := un_drew b62); (try ((fail_if_success (have hh := laR)); obtain ⟨la0, la1, la2, laR⟩ := al3 b62; have lage := hBW.size; have lac := lt_al (w := _) (o := _) (Nat.le_refl _) b62; (try simp only [size_drew] at la0 la1 la2 laR lage lac); replace b62 := below_al b62)); (try (have lac := laR.lt; replace la0 := below_cell b62 la0; replace la1 := below_cell b62 la1; replace la2 := below_cell b62 la2; replace laR := below_row b62 laR)); (try (have laf := fun o => laR.frozen o)); have k2 := h62.seg; clear h62; replace hBW := hBW.trans (b62.mono hBW.size); replace q00 := below_cell b62 q00; replace q01 := below_cell b62 q01; replace q02 := below_cell b62 q02; replace q10 := below_cell b62 q10; replace q11 := below_cell b62 q11; replace k1 := k1.later b62)
            | (go_at_call 14; (fail_if_success clear b63); refine Calls.mono (qOf_zero s0 a61 n0 n0 s1 a62 n1 n1 _ (Nat.le_refl _) (by omega) (by first | exact k2 | exact (k2).later (below_alloc _))) ?_; rintro e w63 ⟨rfl, b63⟩; (try replace b63 := un_drew b63); (try ((fail_if_success (have hh := laR)); obtain ⟨la0, la1, la2, laR⟩ := al3 b63; have lage := hBW.size; have lac := lt_al (w := _) (o := _) (Nat.le_refl _) b63; (try simp only [size_drew] at la0 la1 la2 laR lage lac); replace b63 := below_al b63)); (try (have lac := laR.lt; replace la0 := below_cell b63 la0; replace la1 := below_cell b63 la1; replace la2 := below_cell b63 la2; replace laR := below_row b63 laR)); (try (have laf := fun o => laR.frozen o)); replace hBW := hBW.trans (b63.mono hBW.size); replace q00 := below_cell b63 q00; replace q01 := below_cell b63 q01; replace q02 := below_cell b63 q02; replace q10 := below_cell b63 q10; replace q11 := below_cell b63 q11; replace k1 := k1.later b63; replace k2 := k2.later b63))
      | fail
    all_goals go_wp2_with fail
    all_goals go_meet
    all_goals first
      | exact ⟨_, rfl, rfl, lage, (set3_same la0 la1 la2).1, (set3_same la0 la1 la2).2.1, (set3_same la0 la1 la2).2.2, ((hBW.setCell lage _).setCell lage _).setCell lage _⟩
      | exact ⟨_, rfl, rfl, hBW.size, by go_simp, by go_simp, by go_simp, hBW.trans ((below_alloc _).mono hBW.size)⟩
  case rest =>
  clear hBW
  obtain ⟨c, rfl, rfl, hge, lc0, lc1, lc2, hBW⟩ := hcut
  replace q00 := below_cell hBW q00
  replace q01 := below_cell hBW q01
  replace q02 := below_cell hBW q02
  replace q10 := below_cell hBW q10
  replace q11 := below_cell hBW q11
  go_wp2_with fail
  refine (vqOf_zero s0 a0 n0 c0 X0 s1 a1 n1 c1 _ (by omega) (sb hS0 hB hBW) (by omega) (sb hS1 hB hBW)).mono ?_
  rintro e w71 ⟨rfl, b71⟩
  replace hBW := hBW.trans (b71.mono hBW.size)
  replace q00 := below_cell b71 q00
  replace q01 := below_cell b71 q01
  replace q02 := below_cell b71 q02
  replace q10 := below_cell b71 q10
  replace q11 := below_cell b71 q11
  replace lc0 := below_cell b71 lc0
  replace lc1 := below_cell b71 lc1
  replace lc2 := below_cell b71 lc2
  have hsz71 := hBW.size
  have l7100 : ((w71.alloc (.cells #[.bool false, .slice none 0 0, .slice none 0 0] 27))).cell? ⟨w71.heap.size, 0, none⟩ = some (.bool false) := by go_simp
  have l7101 : ((w71.alloc (.cells #[.bool false, .slice none 0 0, .slice none 0 0] 27))).cell? ⟨w71.heap.size, 1, none⟩ = some (.slice none 0 0) := by go_simp
  have l7102 : ((w71.alloc (.cells #[.bool false, .slice none 0 0, .slice none 0 0] 27))).cell? ⟨w71.heap.size, 2, none⟩ = some (.slice none 0 0) := by go_simp
  have cb71 : Below w71.heap.size w71 ((w71.alloc (.cells #[.bool false, .slice none 0 0, .slice none 0 0] 27))) := ((Below.refl _ _).alloc (by (try simp only [World.size_alloc]); omega) _)
  replace hBW := hBW.trans (cb71.mono hBW.size)
  replace q00 := below_cell cb71 q00
  replace q01 := below_cell cb71 q01
  replace q02 := below_cell cb71 q02
  replace q10 := below_cell cb71 q10
  replace q11 := below_cell cb71 q11
  replace lc0 := below_cell cb71 lc0
  replace lc1 := below_cell cb71 lc1
  replace lc2 := below_cell cb71 lc2
  have hL710 : Row ((w71.alloc (.cells #[.bool false, .slice none 0 0, .slice none 0 0] 27))) (w71.heap.size) := by
    have := row_new (w71) #[.bool false, .slice none 0 0, .slice none 0 0] 27
    try simp only [World.size_alloc] at this
    exact this
  go_wp2_with fail
  generalize (w71.alloc (.cells #[.bool false, .slice none 0 0, .slice none 0 0] 27)) = w71x at q00 q01 q02 q10 q11 lc0 lc1 lc2 l7100 l7101 l7102 hL710 hBW cb71 ⊢
  clear cb71
  refine (none_is _).mono ?_
  rintro e w72 ⟨rfl, b72⟩
  replace hBW := hBW.trans (b72.mono hBW.size)
  replace q00 := below_cell b72 q00
  replace q01 := below_cell b72 q01
  replace q02 := below_cell b72 q02
  replace q10 := below_cell b72 q10
  replace q11 := below_cell b72 q11
  replace lc0 := below_cell b72 lc0
  replace lc1 := below_cell b72 lc1
  replace lc2 := below_cell b72 lc2
  replace l7100 := below_cell b72 l7100
  replace l7101 := below_cell b72 l7101
  replace l7102 := below_cell b72 l7102
  replace hL710 := below_row b72 hL710
  go_wp2_with fail
  refine (half_is _ (GD.out.below (hB.trans (hBW.mono hB.size)))).mono ?_
  rintro e w73 ⟨rfl, b73⟩
  replace hBW := hBW.trans (b73.mono hBW.size)
  replace q00 := below_cell b73 q00
  replace q01 := below_cell b73 q01
  replace q02 := below_cell b73 q02
  replace q10 := below_cell b73 q10
  replace q11 := below_cell b73 q11
  replace lc0 := below_cell b73 lc0
  replace lc1 := below_cell b73 lc1
  replace lc2 := below_cell b73 lc2
  replace l7100 := below_cell b73 l7100
  replace l7101 := below_cell b73 l7101
  replace l7102 := below_cell b73 l7102
  replace hL710 := below_row b73 hL710
  go_wp2
  go_ret
  exact ⟨rfl, hB.trans (hBW.mono hB.size)⟩

set_option maxHeartbeats 8000000 in
set_option maxRecDepth 100000 in
theorem walk_is (s0 : Bool) (a0 : Option Addr) (n0 c0 X0 : Nat) (b0 : Option Addr) (m0 d0 Y0 : Nat) (s1 : Bool) (a1 : Option Addr) (n1 c1 X1 : Nat) (z : Int) (w : World) (hc0 : n0 ≤ c0) (hm0 : n0 ≤ 35184372087808) (hS0 : Seg w a0 X0 n0) (hd0 : m0 ≤ d0) (hk0 : m0 ≤ 35184372087808) (hT0 : Seg w b0 Y0 m0) (hS1 : Seg w a1 X1 n1) (hc1 : n1 ≤ c1) (hm1 : n1 ≤ 35184372087808) (hz1 : -9223372036854775808 ≤ z) (hz2 : z ≤ 9223372036854775807) (hDg : Digits w) (hne : sg s1 X1 ≠ 0) :
    Calls Tryz.prog 3 #[Value.agg #[Value.bool s0, Value.slice a0 n0 c0, Value.slice b0 m0 d0], .agg #[.bool s1, .slice a1 n1 c1], .int .i64 z] w fun e w' => e = .returned (.bool true) ∧ Below w.heap.size w w' := by
  obtain ⟨Z1, V1, h1⟩ := low_ex (rn s0 X0 Y0) (rd Y0 : Nat) (rd_ne Y0)
  obtain ⟨lZ1, lV1⟩ := low_ln hS0.1 hT0.1 h1
  have lz : ln (am z) ≤ 2 := ln_le_of_lt (by rw [BB2]; unfold am; omega)
  have lo : ln 1 ≤ 2 := by rw [ln_one]; omega
  obtain ⟨C, hC⟩ : ∃ C, sgn (rn s0 X0 Y0) = C := ⟨_, rfl⟩
  obtain ⟨O1, hO1⟩ : ∃ O1 : Nat, 1 = O1 := ⟨_, rfl⟩
  rw [hO1] at lo
  have HW : ∀ w', Calls Tryz.prog 10 #[.int .i64 z] w' fun e w'' => ∃ p q, e = .returned (.agg #[.bool (ng z), .slice p (ln (am z)) (ln (am z)), .slice q (ln O1) (ln O1)]) ∧ New w' w'' p (am z) (ln (am z)) ∧ New w' w'' q O1 (ln O1) := fun w' => by subst hO1; exact qWhole_is z w' hz1 hz2
  have HV : ∀ w', Calls Tryz.prog 11 #[.int .i64 z] w' fun e w'' => ∃ p q, e = .returned (.agg #[.bool (ng z), .slice p (ln (am z)) (ln (am z)), .slice q (ln O1) (ln O1)]) ∧ New w' w'' p (am z) (ln (am z)) ∧ New w' w'' q O1 (ln O1) := fun w' => by subst hO1; exact vqWhole_is z w' hz1 hz2
  have GW := hide' HW
  have GV := hide' HV
  have G1 := hide' h1
  have GC := hide' hC
  have GD := hide' hDg
  clear HW HV h1 hC hO1 hDg
  obtain ⟨Z2, V2, h2⟩ := low_ex (sg s0 X0) (sg s1 X1) hne
  have hl2 := h2.le
  rw [am_sg, am_sg] at hl2
  have lZ2 : ln (am Z2) ≤ n0 := ln_le_of_lt (Nat.lt_of_le_of_lt hl2.1 hS0.1)
  have lV2 : ln V2 ≤ n1 := ln_le_of_lt (Nat.lt_of_le_of_lt hl2.2 hS1.1)
  have G2 := hide' h2
  clear h2 hne hl2
  go_enter Tryz.func3, Tryz.ntmps3
  go_wp2_with fail
  obtain ⟨W, hW⟩ : ∃ W, ((w.alloc (.cells #[.bool s0, .slice a0 n0 c0, .slice b0 m0 d0] 27)).alloc (.cells #[.bool s1, .slice a1 n1 c1] 25)) = W := ⟨_, rfl⟩
  have q00 : W.cell? ⟨w.heap.size, 0, none⟩ = some (.bool s0) := by subst hW; go_simp
  have q01 : W.cell? ⟨w.heap.size, 1, none⟩ = some (.slice a0 n0 c0) := by subst hW; go_simp
  have q02 : W.cell? ⟨w.heap.size, 2, none⟩ = some (.slice b0 m0 d0) := by subst hW; go_simp
  have q10 : W.cell? ⟨w.heap.size + 1, 0, none⟩ = some (.bool s1) := by subst hW; go_simp
  have q11 : W.cell? ⟨w.heap.size + 1, 1, none⟩ = some (.slice a1 n1 c1) := by subst hW; go_simp
  have hB : Below w.heap.size w W := by subst hW; exact (((Below.refl _ _).alloc (by (try simp only [World.size_alloc]); omega) _).alloc (by (try simp only [World.size_alloc]); omega) _)
  have hz : W.heap.size = w.heap.size + 1 + 1 := by subst hW; simp only [World.size_alloc]
  rw [hW]
  clear hW
  have hBW : Below W.heap.size W W := Below.refl _ _
  replace hBW := hBW.drew
  first
    | go_region_held3 (fun w' => w'.cell? ⟨w.heap.size, 0, none⟩ = some (.bool s0) ∧ w'.cell? ⟨w.heap.size, 1, none⟩ = some (.slice a0 n0 c0) ∧ w'.cell? ⟨w.heap.size, 2, none⟩ = some (.slice b0 m0 d0) ∧ w'.cell? ⟨w.heap.size + 1, 0, none⟩ = some (.bool s1) ∧ w'.cell? ⟨w.heap.size + 1, 1, none⟩ = some (.slice a1 n1 c1) ∧ Below w.heap.size w w')
        (first | exact ⟨q00, q01, q02, q10, q11, hB.trans (hBW.mono hB.size)⟩ | exact kp5 b41 (by assumption) | exact kp5 b42 (by assumption) | exact kp5 b43 (by assumption) | exact kp5 b44 (by assumption) | exact kp5 b45 (by assumption) | exact kp5 b46 (by assumption) | exact kp5 b47 (by assumption) | exact kp5 b48 (by assumption) | exact kp5 b49 (by assumption) | exact kp5 b50 (by assumption) | exact kp5 (below_alloc _) (by assumption))
        (first
          | (go_at_call 8; go_at_call_of 8 (Value.agg #[Value.bool s0, Value.slice a0 n0 c0, Value.slice b0 m0 d0]); (fail_if_success clear b41); refine (ltwin_is s0 a0 n0 c0 X0 b0 m0 d0 Y0 _ hc0 (by omega) (sb hS0 hB hBW) hd0 (by omega) (sb hT0 hB hBW)).mono ?_; rintro e w41 ⟨p41, q41, rfl, hp41, hq41⟩; have b41 := hp41.below; replace hp41 := hp41.back hBW; replace hq41 := hq41.back hBW; replace hBW := hBW.trans (b41.mono hBW.size); replace q00 := below_cell b41 q00; replace q01 := below_cell b41 q01; replace q02 := below_cell b41 q02; replace q10 := below_cell b41 q10; replace q11 := below_cell b41 q11)
          | (go_at_call 7; (fail_if_success clear b42); refine (qNorm_is s0 p41 n0 n0 X0 q41 m0 m0 Y0 Z1 V1 _ (Nat.le_refl _) (by omega) hp41.seg (Nat.le_refl _) (by omega) hq41.seg G1.out).mono ?_; rintro e w42 ⟨p42, q42, rfl, hp42, hq42⟩; have b42 := hp42.below; replace hp42 := hp42.back hBW; replace hq42 := hq42.back hBW; replace hBW := hBW.trans (b42.mono hBW.size); replace q00 := below_cell b42 q00; replace q01 := below_cell b42 q01; replace q02 := below_cell b42 q02; replace q10 := below_cell b42 q10; replace q11 := below_cell b42 q11; replace hp41 := hp41.later b42; replace hq41 := hq41.later b42; clear hp41 hq41)
          | (go_at_call 9; (fail_if_success clear b43); refine (vqNorm_is s0 a0 n0 c0 X0 b0 m0 d0 Y0 V1 Z1 _ (by omega) (sb hS0 hB hBW) (by omega) (sb hT0 hB hBW) G1.out).mono ?_; rintro e w43 ⟨p43, q43, rfl, hp43, hq43⟩; have b43 := hp43.below; replace hp43 := hp43.back hBW; replace hq43 := hq43.back hBW; replace hBW := hBW.trans (b43.mono hBW.size); replace q00 := below_cell b43 q00; replace q01 := below_cell b43 q01; replace q02 := below_cell b43 q02; replace q10 := below_cell b43 q10; replace q11 := below_cell b43 q11; replace hp42 := hp42.later b43; replace hq42 := hq42.later b43)
          | (go_at_call 6; go_at_call_of 6 (Value.agg #[Value.bool (ng Z1), Value.slice p42 (ln (am Z1)) (ln (am Z1)), Value.slice q42 (ln V1) (ln V1)]); refine (sameQ_is Z1 V1 p42 q42 p43 q43 _ (by omega) (by omega) hp42.seg hq42.seg hp43.seg hq43.seg).mono ?_; rintro e w44 ⟨rfl, b44⟩; replace hBW := hBW.trans (b44.mono hBW.size); replace q00 := below_cell b44 q00; replace q01 := below_cell b44 q01; replace q02 := below_cell b44 q02; replace q10 := below_cell b44 q10; replace q11 := below_cell b44 q11; replace hp42 := hp42.later b44; replace hq42 := hq42.later b44; replace hp43 := hp43.later b44; replace hq43 := hq43.later b44; clear hp42 hq42 hp43 hq43)
          | (go_at_call 10; (fail_if_success clear b45); refine (GW.out _).mono ?_; rintro e w45 ⟨p45, q45, rfl, hp45, hq45⟩; have b45 := hp45.below; replace hp45 := hp45.back hBW; replace hq45 := hq45.back hBW; replace hBW := hBW.trans (b45.mono hBW.size); replace q00 := below_cell b45 q00; replace q01 := below_cell b45 q01; replace q02 := below_cell b45 q02; replace q10 := below_cell b45 q10; replace q11 := below_cell b45 q11)
          | (go_at_call 11; (fail_if_success clear b46); refine (GV.out _).mono ?_; rintro e w46 ⟨p46, q46, rfl, hp46, hq46⟩; have b46 := hp46.below; replace hp46 := hp46.back hBW; replace hq46 := hq46.back hBW; replace hBW := hBW.trans (b46.mono hBW.size); replace q00 := below_cell b46 q00; replace q01 := below_cell b46 q01; replace q02 := below_cell b46 q02; replace q10 := below_cell b46 q10; replace q11 := below_cell b46 q11; replace hp45 := hp45.later b46; replace hq45 := hq45.later b46)
          | (go_at_call 6; go_at_call_of 6 (Value.agg #[Value.bool (ng z), Value.slice p45 (ln (am z)) (ln (am z)), Value.slice q45 (ln O1) (ln O1)]); refine (sameQ_is z O1 p45 q45 p46 q46 _ (by omega) (by omega) hp45.seg hq45.seg hp46.seg hq46.seg).mono ?_; rintro e w47 ⟨rfl, b47⟩; replace hBW := hBW.trans (b47.mono hBW.size); replace q00 := below_cell b47 q00; replace q01 := below_cell b47 q01; replace q02 := below_cell b47 q02; replace q10 := below_cell b47 q10; replace q11 := below_cell b47 q11; replace hp45 := hp45.later b47; replace hq45 := hq45.later b47; replace hp46 := hp46.later b47; replace hq46 := hq46.later b47; clear hp45 hq45 hp46 hq46)
          | (go_at_call 8; go_at_call_of 8 (Value.agg #[Value.bool s0, Value.slice a0 n0 c0, Value.slice b0 m0 d0]); (fail_if_success clear b48); refine (ltwin_is s0 a0 n0 c0 X0 b0 m0 d0 Y0 _ hc0 (by omega) (sb hS0 hB hBW) hd0 (by omega) (sb hT0 hB hBW)).mono ?_; rintro e w48 ⟨p48, q48, rfl, hp48, hq48⟩; have b48 := hp48.below; replace hp48 := hp48.back hBW; replace hq48 := hq48.back hBW; replace hBW := hBW.trans (b48.mono hBW.size); replace q00 := below_cell b48 q00; replace q01 := below_cell b48 q01; replace q02 := below_cell b48 q02; replace q10 := below_cell b48 q10; replace q11 := below_cell b48 q11)
          | (go_at_call 12; refine (qSign_is s0 p48 n0 n0 X0 q48 m0 m0 Y0 C _ (Nat.le_refl _) (by omega) hp48.seg (Nat.le_refl _) (by omega) hq48.seg GC.out).mono ?_; rintro e w49 ⟨rfl, b49⟩; replace hBW := hBW.trans (b49.mono hBW.size); replace q00 := below_cell b49 q00; replace q01 := below_cell b49 q01; replace q02 := below_cell b49 q02; replace q10 := below_cell b49 q10; replace q11 := below_cell b49 q11; replace hp48 := hp48.later b49; replace hq48 := hq48.later b49; clear hp48 hq48)
          | (go_at_call 13; refine (vqSign_is s0 a0 n0 c0 X0 b0 m0 d0 Y0 C _ hc0 (by omega) (sb hS0 hB hBW) hd0 (by omega) (sb hT0 hB hBW) GC.out).mono ?_; rintro e w50 ⟨rfl, b50⟩; replace hBW := hBW.trans (b50.mono hBW.size); replace q00 := below_cell b50 q00; replace q01 := below_cell b50 q01; replace q02 := below_cell b50 q02; replace q10 := below_cell b50 q10; replace q11 := below_cell b50 q11))
    | fail
  go_upto_region 3 with fail
  have hz3 := Nat.le_of_eq hz
  have hz4 := Nat.le_of_eq hz.symm
  clear hz
  have hsW := hBW.size
  replace hB := hB.trans (hBW.mono hB.size)
  clear hBW
  have hBW : Below w50.heap.size w50 w50 := Below.refl _ _
  go_cut [7, 8] from 34 to 42 (fun s7 s8 wx => ∃ c p q, s7 = .pointer (some ⟨c, 0, none⟩) ∧ s8 = .int .i64 0 ∧ w50.heap.size ≤ c ∧ wx.cell? ⟨c, 0, none⟩ = some (.bool (ng Z2)) ∧ wx.cell? ⟨c, 1, none⟩ = some (.slice p (ln (am Z2)) (ln (am Z2))) ∧ wx.cell? ⟨c, 2, none⟩ = some (.slice q (ln V2) (ln V2)) ∧ Seg wx p (am Z2) (ln (am Z2)) ∧ Seg wx q V2 (ln V2) ∧ Below w50.heap.size w50 wx)
  case first =>
    replace hBW := hBW.drew
    first
      | go_region_held3 (fun w' => w'.cell? ⟨w.heap.size, 0, none⟩ = some (.bool s0) ∧ w'.cell? ⟨w.heap.size, 1, none⟩ = some (.slice a0 n0 c0) ∧ w'.cell? ⟨w.heap.size, 2, none⟩ = some (.slice b0 m0 d0) ∧ w'.cell? ⟨w.heap.size + 1, 0, none⟩ = some (.bool s1) ∧ w'.cell? ⟨w.heap.size + 1, 1, none⟩ = some (.slice a1 n1 c1) ∧ Below w.heap.size w w')
          (first | exact ⟨q00, q01, q02, q10, q11, hB.trans (hBW.mono hB.size)⟩ | exact kp5 b61 (by assumption) | exact kp5 b62 (by assumption) | exact kp5 b63 (by assumption) | exact kp5 (below_alloc _) (by assumption) | exact kp5 (below_alloc _) ⟨q00, q01, q02, q10, q11, hB.trans (hBW.mono hB.size)⟩ | exact kpT5_3 (by assumption) (by omega) (by omega) (by omega) (by omega) (by omega) (by omega))
          (first
            | (go_at_call 15; go_at_call_of 15 (Value.agg #[Value.bool s0, Value.slice a0 n0 c0]); (fail_if_success clear b61); refine Calls.mono (lwhole_is s0 a0 n0 c0 X0 _ (by omega) (by first | exact (sb hS0 hB hBW) | exact ((sb hS0 hB hBW)).later (below_alloc _))) ?_; rintro e w61 ⟨a61, rfl, h61⟩; have b61 := h61.below; (try replace b61 := un_drew b61); (try ((fail_if_success (have hh := laR)); obtain ⟨la0, la1, la2, laR⟩ := al3 b61; have lage := hBW.size; have lac := lt_al (w := _) (o := _) (Nat.le_refl _) b61; (try simp only [size_drew] at la0 la1 la2 laR lage lac); replace b61 := below_al b61)); (try (have lac := laR.lt; replace la0 := below_cell b61 la0; replace la1 := below_cell b61 la1; replace la2 := below_cell b61 la2; replace laR := below_row b61 laR)); (try (have laf := fun o => laR.frozen o)); have k1 := h61.seg; clear h61; replace hBW := hBW.trans (b61.mono hBW.size); replace q00 := below_cell b61 q00; replace q01 := below_cell b61 q01; replace q02 := below_cell b61 q02; replace q10 := below_cell b61 q10; replace q11 := below_cell b61 q11)
            | (go_at_call 15; go_at_call_of 15 (Value.agg #[Value.bool s1, Value.slice a1 n1 c1]); (fail_if_success clear b62); refine Calls.mono (lwhole_is s1 a1 n1 c1 X1 _ (by omega) (by first | exact (sb hS1 hB hBW) | exact ((sb hS1 hB hBW)).later (below_alloc _))) ?_; rintro e w62 ⟨a62, rfl, h62⟩; have b62 := h62.below; (try replace b62 := un_drew b62); (try ((fail_if_success (have hh := laR)); obtain ⟨la0, la1, la2, laR⟩ := al3 b62; have lage := hBW.size; have lac := lt_al (w := _) (o := _) (Nat.le_refl _) b62; (try simp only [size_drew] at la0 la1 la2 laR lage lac); replace b62 := below_al b62)); (try (have lac := laR.lt; replace la0 := below_cell b62 la0; replace la1 := below_cell b62 la1; replace la2 := below_cell b62 la2; replace laR := below_row b62 laR)); (try (have laf := fun o => laR.frozen o)); have k2 := h62.seg; clear h62; replace hBW := hBW.trans (b62.mono hBW.size); replace q00 := below_cell b62 q00; replace q01 := below_cell b62 q01; replace q02 := below_cell b62 q02; replace q10 := below_cell b62 q10; replace q11 := below_cell b62 q11; replace k1 := k1.later b62)
            | (go_at_call 14; (fail_if_success clear b63); refine Calls.mono (qOf_is s0 a61 n0 n0 X0 s1 a62 n1 n1 X1 V2 Z2 _ (Nat.le_refl _) (by omega) (by first | exact k1 | exact (k1).later (below_alloc _)) (Nat.le_refl _) (by omega) (by first | exact k2 | exact (k2).later (below_alloc _)) G2.out) ?_; rintro e w63 ⟨p63, q63, rfl, hp63, hq63⟩; have b63 := hp63.below; (try replace b63 := un_drew b63); (try ((fail_if_success (have hh := laR)); obtain ⟨la0, la1, la2, laR⟩ := al3 b63; have lage := hBW.size; have lac := lt_al (w := _) (o := _) (Nat.le_refl _) b63; (try simp only [size_drew] at la0 la1 la2 laR lage lac); replace b63 := below_al b63)); (try (have lac := laR.lt; replace la0 := below_cell b63 la0; replace la1 := below_cell b63 la1; replace la2 := below_cell b63 la2; replace laR := below_row b63 laR)); (try (have laf := fun o => laR.frozen o)); replace hBW := hBW.trans (b63.mono hBW.size); replace q00 := below_cell b63 q00; replace q01 := below_cell b63 q01; replace q02 := below_cell b63 q02; replace q10 := below_cell b63 q10; replace q11 := below_cell b63 q11; replace k1 := k1.later b63; replace k2 := k2.later b63))
      | fail
    all_goals go_wp2_with fail
    all_goals go_meet
    all_goals first
      | exact ⟨_, _, _, rfl, rfl, lage, (set3_same la0 la1 la2).1, (set3_same la0 la1 la2).2.1, (set3_same la0 la1 la2).2.2, hp63.seg3 lac _ _ _, hq63.seg3 lac _ _ _, ((hBW.setCell lage _).setCell lage _).setCell lage _⟩
      | exact ⟨_, _, _, rfl, rfl, hBW.size, by go_simp, by go_simp, by go_simp, hp63.seg.later (below_alloc _), hq63.seg.later (below_alloc _), hBW.trans ((below_alloc _).mono hBW.size)⟩
  case rest =>
  clear hBW
  obtain ⟨c, p, q, rfl, rfl, hge, lc0, lc1, lc2, kP, kQ, hBW⟩ := hcut
  replace q00 := below_cell hBW q00
  replace q01 := below_cell hBW q01
  replace q02 := below_cell hBW q02
  replace q10 := below_cell hBW q10
  replace q11 := below_cell hBW q11
  go_wp2_with fail
  refine (vqOf_is s0 a0 n0 c0 X0 s1 a1 n1 c1 X1 V2 Z2 _ (by omega) (sb hS0 hB hBW) (by omega) (sb hS1 hB hBW) G2.out).mono ?_
  rintro e w71 ⟨p71, q71, rfl, hp71, hq71⟩
  have b71 := hp71.below
  replace hp71 := hp71.back hBW
  replace hq71 := hq71.back hBW
  replace hBW := hBW.trans (b71.mono hBW.size)
  replace q00 := below_cell b71 q00
  replace q01 := below_cell b71 q01
  replace q02 := below_cell b71 q02
  replace q10 := below_cell b71 q10
  replace q11 := below_cell b71 q11
  replace lc0 := below_cell b71 lc0
  replace lc1 := below_cell b71 lc1
  replace lc2 := below_cell b71 lc2
  replace kP := kP.later b71
  replace kQ := kQ.later b71
  have hsz71 := hBW.size
  have l7100 : ((w71.alloc (.cells #[.bool (ng Z2), .slice p71 (ln (am Z2)) (ln (am Z2)), .slice q71 (ln V2) (ln V2)] 27))).cell? ⟨w71.heap.size, 0, none⟩ = some (.bool (ng Z2)) := by go_simp
  have l7101 : ((w71.alloc (.cells #[.bool (ng Z2), .slice p71 (ln (am Z2)) (ln (am Z2)), .slice q71 (ln V2) (ln V2)] 27))).cell? ⟨w71.heap.size, 1, none⟩ = some (.slice p71 (ln (am Z2)) (ln (am Z2))) := by go_simp
  have l7102 : ((w71.alloc (.cells #[.bool (ng Z2), .slice p71 (ln (am Z2)) (ln (am Z2)), .slice q71 (ln V2) (ln V2)] 27))).cell? ⟨w71.heap.size, 2, none⟩ = some (.slice q71 (ln V2) (ln V2)) := by go_simp
  have cb71 : Below w71.heap.size w71 ((w71.alloc (.cells #[.bool (ng Z2), .slice p71 (ln (am Z2)) (ln (am Z2)), .slice q71 (ln V2) (ln V2)] 27))) := ((Below.refl _ _).alloc (by (try simp only [World.size_alloc]); omega) _)
  replace hBW := hBW.trans (cb71.mono hBW.size)
  replace q00 := below_cell cb71 q00
  replace q01 := below_cell cb71 q01
  replace q02 := below_cell cb71 q02
  replace q10 := below_cell cb71 q10
  replace q11 := below_cell cb71 q11
  replace lc0 := below_cell cb71 lc0
  replace lc1 := below_cell cb71 lc1
  replace lc2 := below_cell cb71 lc2
  replace kP := kP.later cb71
  replace kQ := kQ.later cb71
  replace hp71 := hp71.later cb71
  replace hq71 := hq71.later cb71
  have hL710 : Row ((w71.alloc (.cells #[.bool (ng Z2), .slice p71 (ln (am Z2)) (ln (am Z2)), .slice q71 (ln V2) (ln V2)] 27))) (w71.heap.size) := by
    have := row_new (w71) #[.bool (ng Z2), .slice p71 (ln (am Z2)) (ln (am Z2)), .slice q71 (ln V2) (ln V2)] 27
    try simp only [World.size_alloc] at this
    exact this
  go_wp2_with fail
  generalize (w71.alloc (.cells #[.bool (ng Z2), .slice p71 (ln (am Z2)) (ln (am Z2)), .slice q71 (ln V2) (ln V2)] 27)) = w71x at q00 q01 q02 q10 q11 lc0 lc1 lc2 l7100 l7101 l7102 hL710 kP kQ hp71 hq71 hBW cb71 ⊢
  clear cb71
  refine (sameQ_is Z2 V2 p q p71 q71 _ (by omega) (by omega) kP kQ hp71.seg hq71.seg).mono ?_
  rintro e w72 ⟨rfl, b72⟩
  replace hBW := hBW.trans (b72.mono hBW.size)
  replace q00 := below_cell b72 q00
  replace q01 := below_cell b72 q01
  replace q02 := below_cell b72 q02
  replace q10 := below_cell b72 q10
  replace q11 := below_cell b72 q11
  replace lc0 := below_cell b72 lc0
  replace lc1 := below_cell b72 lc1
  replace lc2 := below_cell b72 lc2
  replace l7100 := below_cell b72 l7100
  replace l7101 := below_cell b72 l7101
  replace l7102 := below_cell b72 l7102
  replace hL710 := below_row b72 hL710
  replace kP := kP.later b72
  replace kQ := kQ.later b72
  replace hp71 := hp71.later b72
  replace hq71 := hq71.later b72
  go_wp2_with fail
  refine (half_is _ (GD.out.below (hB.trans (hBW.mono hB.size)))).mono ?_
  rintro e w73 ⟨rfl, b73⟩
  replace hBW := hBW.trans (b73.mono hBW.size)
  replace q00 := below_cell b73 q00
  replace q01 := below_cell b73 q01
  replace q02 := below_cell b73 q02
  replace q10 := below_cell b73 q10
  replace q11 := below_cell b73 q11
  replace lc0 := below_cell b73 lc0
  replace lc1 := below_cell b73 lc1
  replace lc2 := below_cell b73 lc2
  replace l7100 := below_cell b73 l7100
  replace l7101 := below_cell b73 l7101
  replace l7102 := below_cell b73 l7102
  replace hL710 := below_row b73 hL710
  replace kP := kP.later b73
  replace kQ := kQ.later b73
  replace hp71 := hp71.later b73
  replace hq71 := hq71.later b73
  go_wp2
  go_ret
  exact ⟨rfl, hB.trans (hBW.mono hB.size)⟩

theorem walk (s0 : Bool) (a0 : Option Addr) (n0 c0 X0 : Nat) (b0 : Option Addr) (m0 d0 Y0 : Nat) (s1 : Bool) (a1 : Option Addr) (n1 c1 X1 : Nat) (z : Int) (w : World) (hc0 : n0 ≤ c0) (hm0 : n0 ≤ 35184372087808) (hS0 : Seg w a0 X0 n0) (hd0 : m0 ≤ d0) (hk0 : m0 ≤ 35184372087808) (hT0 : Seg w b0 Y0 m0) (hS1 : Seg w a1 X1 n1) (hc1 : n1 ≤ c1) (hm1 : n1 ≤ 35184372087808) (hz1 : -9223372036854775808 ≤ z) (hz2 : z ≤ 9223372036854775807) (hDg : Digits w) :
    Calls Tryz.prog 3 #[Value.agg #[Value.bool s0, Value.slice a0 n0 c0, Value.slice b0 m0 d0], .agg #[.bool s1, .slice a1 n1 c1], .int .i64 z] w fun e w' => e = .returned (.bool true) ∧ Below w.heap.size w w' := by
  by_cases h : sg s1 X1 = 0
  · exact walk_zero s0 a0 n0 c0 X0 b0 m0 d0 Y0 s1 a1 n1 c1 X1 z w hc0 hm0 hS0 hd0 hk0 hT0 hS1 hc1 hm1 hz1 hz2 hDg (sg_eq_zero.1 h)
  · exact walk_is s0 a0 n0 c0 X0 b0 m0 d0 Y0 s1 a1 n1 c1 X1 z w hc0 hm0 hS0 hd0 hk0 hT0 hS1 hc1 hm1 hz1 hz2 hDg h

theorem gTab : Tryz.prog.globalNamed "fulcrum/nat.digits" = some 1 := by kernel_rfl
theorem gTabType : (Tryz.prog.globals[1]?).map (·.type) = some 120 := by kernel_rfl
theorem cellsA : Tryz.prog.cellsOf 120 = 16 := by kernel_rfl
theorem cells8 : Tryz.prog.cellsOf 5 = 1 := by kernel_rfl
theorem table {W : World} (h : laidMetH Tryz.prog Rows.ratioNormsRow.laid W) : Lib.TabIs Tryz.prog W "fulcrum/nat.digits" .u8 [48, 49, 50, 51, 52, 53, 54, 55, 56, 57, 97, 98, 99, 100, 101, 102] :=
  Lib.tabIs_of_head (rest := []) gTab gTabType Tryz.underlying120 Tryz.underlying5 cells8 cellsA h
theorem digits_of {W : World} (h : laidMetH Tryz.prog Rows.ratioNormsRow.laid W) : Digits W :=
  ⟨(table h).cell gTab 0 (by decide), (table h).cell gTab 1 (by decide), (table h).cell gTab 2 (by decide), (table h).cell gTab 3 (by decide), (table h).cell gTab 4 (by decide)⟩

set_option maxRecDepth 100000 in
theorem contract (H : Type) (enc : TypeId × Value → H) (W : World) (base : Nat) (args : Array Value) (ds gs : List (DataW H)) (before : List MemPlace)
    (hval : ∀ (j : Nat) t v, Tryz.f3.params[j]? = some t → args[j]? = some v → Value.okWide Tryz.prog W .any base t v)
    (hW : DataW.Whole enc Tryz.prog Tryz.f3.params.toList Rows.ratioNormsSpec.vars false W args.toList ds gs before)
    (hsz : (DataW.weightsEach Tryz.prog (Tryz.f3.params.toList ++ Rows.ratioNormsSpec.plain.varTypes Tryz.prog) (ds ++ gs)).all (· ≤ reachBytes) = true) (hL : laidMetH Tryz.prog Rows.ratioNormsRow.laid W) :
    Calls Tryz.prog 3 args W fun e W' => ∃ v, e = .returned v ∧ Rows.ratioNormsSpec.post enc Tryz.prog Tryz.f3 false true false false W args v W' := by
  have hW' := hW
  obtain ⟨p, q, hA0, hV, rfl, hfz, hnd⟩ := hW
  have hA : DataW.TrodAll enc Tryz.prog W 0 (fun _ => true) true Tryz.f3.params.toList args.toList ds p := hA0
  rw [Tryz.params3] at hA hval hsz
  obtain ⟨v0, vs0, d0, ds0, p0, q0, hargs, rfl, rfl, h0, r0⟩ := trodAll_cons hA
  obtain ⟨v1, vs1, d1, ds1, p1, q1, rfl, rfl, rfl, h1, r1⟩ := trodAll_cons r0
  obtain ⟨v2, vs2, d2, ds2, p2, q2, rfl, rfl, rfl, h2, r2⟩ := trodAll_cons r1
  obtain ⟨rfl, rfl, rfl⟩ := trodAll_nil r2
  obtain rfl : args = #[v0, v1, v2] := by cases args; simp_all
  obtain ⟨rfl, rfl⟩ := trodVars_none hV
  have lt0 : ∀ x ∈ p0, x.block < W.heap.size := by obtain ⟨m, hm⟩ := h0; exact DataW.trod_lt m _ _ _ hm
  obtain ⟨rs0, ra0, rn0, rc0, rX0, rb0, rm0, re0, rY0, rfl, hS0, hc0, hb0, hT0, hd0, hk0, hu0, hv0⟩ := open_Rat (hval 0 27 v0 rfl rfl) h0 (sized_at 0 hsz rfl rfl)
  have lt1 : ∀ x ∈ p1, x.block < W.heap.size := by obtain ⟨m, hm⟩ := h1; exact DataW.trod_lt m _ _ _ hm
  obtain ⟨s1, a1, len1, cap1, X1, rfl, hS1, hc1, hb1, hu1⟩ := open_Int (hval 1 25 v1 rfl rfl) h1 (sized_at 1 hsz rfl rfl)
  obtain ⟨z2, rfl, rfl, rfl, w2⟩ := open_int Tryz.underlying2 (hval 2 2 v2 rfl rfl) h2
  have bz2 := bounds_i64 w2
  clear hA0
  simp only [List.append_nil] at hW'
  refine (walk rs0 ra0 rn0 rc0 rX0 rb0 rm0 re0 rY0 s1 a1 len1 cap1 X1 z2 W hc0 hb0 hS0 hd0 hk0 hT0 hS1 hc1 hb1 (by omega) (by omega) (digits_of hL)).mono fun e W' ⟨he, bel⟩ => ?_
  subst he
  exact ⟨_, rfl, _, _, _, [], _, [], hW', trodAll_mk1 (shut_bool Tryz.underlying4 _), (trodAll_cons_mk (Below.trod laidOut (by kernel_rfl) (of_decide_eq_true (by kernel_rfl)) h0 bel lt0) (trodAll_cons_mk (Below.trod laidOut (by kernel_rfl) (of_decide_eq_true (by kernel_rfl)) h1 bel lt1) (trodAll_cons_mk (shut_int Tryz.underlying2 w2) trodAll_mk0))), rfl, bel.frame _, fun h => by cases h⟩

def setCells (cs : Array Value) : Obj → Obj
  | .cells _ t frozen => .cells cs t frozen
  | o => o
set_option maxRecDepth 100000 in
noncomputable def laidWorld (os : Os) : World :=
  { World.holding Tryz.prog os ⟨#[], #[], []⟩ with heap := ((World.holding Tryz.prog os ⟨#[], #[], []⟩).heap.modify 1 (setCells #[.int .u8 48, .int .u8 49, .int .u8 50, .int .u8 51, .int .u8 52, .int .u8 53, .int .u8 54, .int .u8 55, .int .u8 56, .int .u8 57, .int .u8 97, .int .u8 98, .int .u8 99, .int .u8 100, .int .u8 101, .int .u8 102])) }
set_option maxRecDepth 100000 in
theorem laid_met (os : Os) : laidMet Tryz.prog Rows.ratioNormsRow.laid ((laidWorld os).forCall (fun _ _ => 0) ⟨#[], #[.agg #[.bool false, .slice none 0 0, .slice none 0 0], .agg #[.bool false, .slice none 0 0], .int .i64 0], []⟩).memory :=
  laidMet_of_run' 8 (by kernel_rfl) (by kernel_rfl)
theorem reads (os : Os) {H : Type} (enc : TypeId × Value → H) : ∃ places, DataW.whole enc Tryz.prog ((laidWorld os).forCall (fun _ _ => 0) ⟨#[], #[.agg #[.bool false, .slice none 0 0, .slice none 0 0], .agg #[.bool false, .slice none 0 0], .int .i64 0], []⟩).memory Tryz.f3.params.toList Rows.ratioNormsSpec.vars false [Value.agg #[.bool false, .slice none 0 0, .slice none 0 0], Value.agg #[.bool false, .slice none 0 0], Value.int .i64 0] 8 = some ([.agg [.agg [.lit (.bool false), .nil], .nil], .agg [.lit (.bool false), .nil], .lit (.int .i64 0)], [], places) :=
  ⟨[], by kernel_rfl⟩

set_option maxRecDepth 100000 in
theorem liftedUpto (os : Os) (started : os.Started) (H : Type) (enc : TypeId × Value → H) (F : Stop.Interp) :
    ReturnsInHanded {} Tryz.checked os 3 .any ((OpenSpec.ofChange Rows.ratioNormsSpec).preRow enc Tryz.prog Tryz.f3 Rows.ratioNormsRow.domain false Rows.ratioNormsRow.laid) (((OpenSpec.ofChange Rows.ratioNormsSpec).at F).post enc Tryz.prog Tryz.f3 false true false false) := by
  obtain ⟨places, hx⟩ := reads os enc
  refine returnsInHanded_of_row (C := Tryz.checked) (s := OpenSpec.ofChange Rows.ratioNormsSpec) own started (by kernel_rfl) Tryz.func3
    (witness_row_at (enc := enc) (C := Tryz.checked) false (laidWorld os) #[.agg #[.bool false, .slice none 0 0, .slice none 0 0], .agg #[.bool false, .slice none 0 0], .int .i64 0] rfl (by kernel_rfl) (by kernel_rfl) (by kernel_rfl)
      (OpenSpec.preRow_of_cond 8 hx (by kernel_rfl) (fun k hk => by cases hk) (by kernel_rfl) (laid_met os))) ?_
  intro W base args ds gs before hval hW _ hk hsz hL _ _
  exact contract H enc W base args ds gs before hval hW hsz hL

theorem saidUpto : Rows.RatioNormsSaid :=
  OpenClaim.holds_of_cond 3 Tryz.f3 rfl rfl rfl rfl rfl rfl rfl ⟨rfl, rfl, rfl, rfl, rfl⟩ rfl rfl rfl rfl rfl (by kernel_rfl) Tryz.func3 (by kernel_rfl)
    (of_decide_eq_true (by kernel_rfl)) (by unfold Func.isWrapper; first | (rw [if_pos (by decide +kernel)]; kernel_rfl) | (rw [if_neg (by decide +kernel)]; exact ⟨rfl, rfl⟩))
    (fun os started H enc _ F => by rw [OpenClaim.pre_eq_preRow]; exact liftedUpto os started H enc F)

theorem plain (f : FuncId) (fn : Func) (hf : Tryz.pinned.checked.prog.funcNamed "fulcrum/fulcrumlaw03.RatioNorms" = some f) (hfn : Tryz.pinned.checked.prog.funcs[f]? = some fn) :
    false = Tryz.pinned.checked.prog.looks [] ∧ ∀ (j : Nat) t, fn.params[j]? = some t → Tryz.pinned.checked.prog.wantsStandIn t = false := by
  obtain rfl : f = 3 := Option.some.inj ((show Tryz.prog.funcNamed "fulcrum/fulcrumlaw03.RatioNorms" = some 3 by kernel_rfl).symm.trans hf) |>.symm
  obtain rfl : fn = Tryz.f3 := (Option.some.inj (Tryz.func3.symm.trans hfn)).symm
  refine ⟨by kernel_rfl, fun j t ht => ?_⟩
  rw [Tryz.params3] at ht
  have hm := Array.mem_of_getElem? ht
  simp only [List.mem_toArray, List.mem_cons, List.not_mem_nil, or_false] at hm
  rcases hm with rfl | rfl | rfl
  · exact (show Tryz.prog.wantsStandIn 27 = false by kernel_rfl)
  · exact (show Tryz.prog.wantsStandIn 25 = false by kernel_rfl)
  · exact (show Tryz.prog.wantsStandIn 2 = false by kernel_rfl)

theorem cardUpto : Rows.RatioNormsCardSaid :=
  Claim7.holds_tied_plain_at .later [] _ _ _ _ saidUpto (fun _ h => by cases h) (by kernel_rfl) (fun _ h => by cases h) ratioNorms_row_tie rfl ⟨rfl, rfl⟩ (by kernel_rfl) rfl plain (by kernel_rfl)
end Go.Proofs.YtgoocgecigkblaaGreatDoor.ratioNorms
namespace Go.Proofs.YtgoocgecigkblaaGreatDoor
theorem ratioNorms_holds : Rows.RatioNormsCardSaid := ratioNorms.cardUpto
#print axioms ratioNorms_holds
end Go.Proofs.YtgoocgecigkblaaGreatDoor
