/-
  RatioFloors.
-/
import Derived.Test.YtgoocgecigkblaaGreatDoorWQG
import Derived.Test.YtgoocgecigkblaaGreatDoorWQH
import Derived.Test.YtgoocgecigkblaaGreatDoorWQA
import Derived.Test.YtgoocgecigkblaaGreatDoorWH3
import Derived.Test.YtgoocgecigkblaaGreatDoorOpenQ
import Derived.Test.YtgoocgecigkblaaGreatDoorCards
import Derived.Test.YtgoocgecigkblaaGreatDoorTie
import Derived.Deep.DeepHandedRow
import Derived.Lib.LaidTab
namespace Go.Proofs.YtgoocgecigkblaaGreatDoor.ratioFloors
open Go.ChangeShapes Go.WideShapes Go.ChangeAt Go.RowKit Go.Proofs.YtgoocgecigkblaaGreatDoor
set_option linter.unusedVariables false

theorem fl_ln {A D Z G : Int} {i k : Nat} (h : Fl A D Z G) (hD : 0 < D) (hA : am A < BB ^ i) (hi : i + 1 ≤ k) (h1 : 2 ≤ k) : ln (am Z) ≤ k := by
  have h3 := h.am hD
  have h5 := ln_sum hA (show 1 < BB ^ 1 by rw [Nat.pow_one, BB_eq]; omega) (k := k) hi h1
  exact Nat.le_trans (ln_mono h3) h5

set_option maxHeartbeats 4000000 in
set_option maxRecDepth 100000 in
theorem vqCeil_is (s0 : Bool) (a0 : Option Addr) (n0 c0 X0 : Nat) (b0 : Option Addr) (m0 d0 Y0 : Nat) (Z G Z2 : Int) (w : World) (hc0 : n0 ≤ c0) (hm0 : n0 ≤ 35184372087808) (hS0 : Seg w a0 X0 n0) (hd0 : m0 ≤ d0) (hk0 : m0 ≤ 35184372087808) (hT0 : Seg w b0 Y0 m0) (h : Fl (-(rn s0 X0 Y0)) (rd Y0 : Nat) Z G) (h2 : -Z = Z2) :
    Calls Tryz.prog 23 #[Value.agg #[Value.bool s0, Value.slice a0 n0 c0, Value.slice b0 m0 d0]] w fun e w' => ∃ p, e = .returned (.agg #[.bool (ng Z2), .slice p (ln (am Z2)) (ln (am Z2))]) ∧ New w w' p (am Z2) (ln (am Z2)) := by
  have l0 := Nat.lt_of_le_of_lt (rn_am s0 X0 Y0) hS0.1
  have lZ : ln (am Z) ≤ 35184372087810 := fl_ln h (by have := rd_pos Y0; omega) (by rw [am_neg]; exact l0) (by omega) (by omega)
  obtain ⟨Z1, V1, h1⟩ := low_ex (-(rn s0 X0 Y0)) (rd Y0 : Nat) (rd_ne Y0)
  have hl := h1.le
  rw [am_neg, am_nat] at hl
  have lZ1 : ln (am Z1) ≤ n0 := ln_le_of_lt (Nat.lt_of_le_of_lt hl.1 l0)
  have lV1 : ln V1 ≤ max m0 1 := ln_le_of_lt (Nat.lt_of_le_of_lt hl.2 (rd_ltM hT0.1))
  obtain ⟨Z', G', h3⟩ := fl_ex Z1 (D := (V1 : Int)) (by have := h1.pos; omega)
  have e1 : Z' = Z := h.same (by have := rd_pos Y0; omega) h3 (by have := h1.pos; omega) (by have := h1.eq; omega)
  rw [e1] at h3
  have h4 : Fl (rn (ng Z1) (am Z1) V1) ((rd V1 : Nat) : Int) Z G' := by rw [rn_nf h1.pos, rd_nf h1.pos]; exact h3
  have G1 := hide' h1
  have G4 := hide' h4
  have HN := hide' (fun w' p k => vNeg_is (ng Z) p (ln (am Z)) (ln (am Z)) (am Z) Z2 w' (by omega) k (by rw [sg_na]; exact h2))
  clear h h1 h2 h3 h4 e1 hl l0
  go_enter Tryz.func23, Tryz.ntmps23
  go_wp2_with fail
  obtain ⟨W, hW⟩ : ∃ W, ((w.alloc (.cells #[.bool s0, .slice a0 n0 c0, .slice b0 m0 d0] 27)).alloc (.cells #[.bool false, .slice none 0 0] 25)) = W := ⟨_, rfl⟩
  have q00 : W.cell? ⟨w.heap.size, 0, none⟩ = some (.bool s0) := by subst hW; go_simp
  have q01 : W.cell? ⟨w.heap.size, 1, none⟩ = some (.slice a0 n0 c0) := by subst hW; go_simp
  have q02 : W.cell? ⟨w.heap.size, 2, none⟩ = some (.slice b0 m0 d0) := by subst hW; go_simp
  have r00 : W.cell? ⟨w.heap.size + 1, 0, none⟩ = some (.bool false) := by subst hW; go_simp
  have r01 : W.cell? ⟨w.heap.size + 1, 1, none⟩ = some (.slice none 0 0) := by subst hW; go_simp
  have hB : Below w.heap.size w W := by subst hW; exact (((Below.refl _ _).alloc (by (try simp only [World.size_alloc]); omega) _).alloc (by (try simp only [World.size_alloc]); omega) _)
  have hR0 : Row W (w.heap.size + 1) := by
    have := row_new ((w.alloc (.cells #[.bool s0, .slice a0 n0 c0, .slice b0 m0 d0] 27))) #[.bool false, .slice none 0 0] 25
    try simp only [World.size_alloc] at this
    subst hW; exact this
  have hz : W.heap.size = w.heap.size + 1 + 1 := by subst hW; simp only [World.size_alloc]
  rw [hW]
  clear hW
  have hBW : Below W.heap.size W W := Below.refl _ _
  refine (vqNeg_big s0 a0 n0 c0 X0 b0 m0 d0 Y0 Z1 V1 _ hc0 (by omega) (sb hS0 hB hBW) hd0 (by omega) (sb hT0 hB hBW) G1.out).mono ?_
  rintro e w41 ⟨p41, q41, rfl, hp41, hq41⟩
  have b41 := hp41.below
  replace hp41 := hp41.back hBW
  replace hq41 := hq41.back hBW
  replace hBW := hBW.trans (b41.mono hBW.size)
  replace q00 := below_cell b41 q00
  replace q01 := below_cell b41 q01
  replace q02 := below_cell b41 q02
  replace r00 := below_cell b41 r00
  replace r01 := below_cell b41 r01
  replace hR0 := below_row b41 hR0
  go_wp2_with fail
  refine (vqFloor_is (ng Z1) p41 (ln (am Z1)) (ln (am Z1)) (am Z1) q41 (ln V1) (ln V1) V1 Z G' _ (Nat.le_refl _) (by omega) hp41.seg (Nat.le_refl _) (by omega) hq41.seg G4.out).mono ?_
  rintro e w42 ⟨p42, rfl, hp42⟩
  have b42 := hp42.below
  replace hp42 := hp42.back hBW
  replace hBW := hBW.trans (b42.mono hBW.size)
  replace q00 := below_cell b42 q00
  replace q01 := below_cell b42 q01
  replace q02 := below_cell b42 q02
  replace r00 := below_cell b42 r00
  replace r01 := below_cell b42 r01
  replace hR0 := below_row b42 hR0
  replace hp41 := hp41.later b42
  replace hq41 := hq41.later b42
  go_wp2_with fail
  refine (HN.out _ p42 hp42.seg).mono ?_
  rintro e w43 ⟨a43, rfl, h9⟩
  have b43 := h9.below
  replace h9 := h9.back hBW
  replace hBW := hBW.trans (b43.mono hBW.size)
  replace q00 := below_cell b43 q00
  replace q01 := below_cell b43 q01
  replace q02 := below_cell b43 q02
  replace r00 := below_cell b43 r00
  replace r01 := below_cell b43 r01
  replace hR0 := below_row b43 hR0
  replace hp41 := hp41.later b43
  replace hq41 := hq41.later b43
  replace hp42 := hp42.later b43
  have fz0 := fun o => hR0.frozen o
  go_wp2
  all_goals refine bodyPost_ret (v := .agg #[.bool (ng Z2), .slice a43 (ln (am Z2)) (ln (am Z2))]) (by rw [results_cell rfl]; go_simp) rfl ?_
  all_goals exact ⟨a43, rfl, h9.mid hB ((((Mid.refl _ _ _).set _ _ (by omega) (by omega) _).set _ _ (by omega) (by omega) _))⟩

set_option maxHeartbeats 8000000 in
set_option maxRecDepth 100000 in
theorem walk (s0 : Bool) (a0 : Option Addr) (n0 c0 X0 : Nat) (b0 : Option Addr) (m0 d0 Y0 : Nat) (w : World) (hc0 : n0 ≤ c0) (hm0 : n0 ≤ 35184372087808) (hS0 : Seg w a0 X0 n0) (hd0 : m0 ≤ d0) (hk0 : m0 ≤ 35184372087808) (hT0 : Seg w b0 Y0 m0) (hDg : Digits w) :
    Calls Tryz.prog 4 #[Value.agg #[Value.bool s0, Value.slice a0 n0 c0, Value.slice b0 m0 d0]] w fun e w' => e = .returned (.bool true) ∧ Below w.heap.size w w' := by
  have hD : (0 : Int) < ((rd Y0 : Nat) : Int) := by have := rd_pos Y0; omega
  have l0 := Nat.lt_of_le_of_lt (rn_am s0 X0 Y0) hS0.1
  obtain ⟨Z, G, h1⟩ := fl_ex (rn s0 X0 Y0) hD
  obtain ⟨Y, H, h2⟩ := fl_ex (-(rn s0 X0 Y0)) hD
  obtain ⟨Y2, h3⟩ : ∃ Y2, -Y = Y2 := ⟨_, rfl⟩
  have lZ : ln (am Z) ≤ 35184372087810 := fl_ln h1 hD l0 (by omega) (by omega)
  have lY : ln (am Y2) ≤ 35184372087810 := by rw [← h3, am_neg]; exact fl_ln h2 hD (by rw [am_neg]; exact l0) (by omega) (by omega)
  have G1 := hide' h1
  have G2 := hide' h2
  have G3 := hide' h3
  have GD := hide' hDg
  clear h1 h2 h3 hDg hD l0
  go_enter Tryz.func4, Tryz.ntmps4
  go_wp2_with fail
  obtain ⟨W, hW⟩ : ∃ W, (w.alloc (.cells #[.bool s0, .slice a0 n0 c0, .slice b0 m0 d0] 27)) = W := ⟨_, rfl⟩
  have q00 : W.cell? ⟨w.heap.size, 0, none⟩ = some (.bool s0) := by subst hW; go_simp
  have q01 : W.cell? ⟨w.heap.size, 1, none⟩ = some (.slice a0 n0 c0) := by subst hW; go_simp
  have q02 : W.cell? ⟨w.heap.size, 2, none⟩ = some (.slice b0 m0 d0) := by subst hW; go_simp
  have hB : Below w.heap.size w W := by subst hW; exact ((Below.refl _ _).alloc (by (try simp only [World.size_alloc]); omega) _)
  have hz : W.heap.size = w.heap.size + 1 := by subst hW; simp only [World.size_alloc]
  rw [hW]
  clear hW
  have hBW : Below W.heap.size W W := Below.refl _ _
  replace hBW := hBW.drew
  first
    | go_region_held3 (fun w' => w'.cell? ⟨w.heap.size, 0, none⟩ = some (.bool s0) ∧ w'.cell? ⟨w.heap.size, 1, none⟩ = some (.slice a0 n0 c0) ∧ w'.cell? ⟨w.heap.size, 2, none⟩ = some (.slice b0 m0 d0) ∧ Below w.heap.size w w')
        (first | exact ⟨q00, q01, q02, hB.trans (hBW.mono hB.size)⟩ | exact kp3 b41 (by assumption) | exact kp3 b42 (by assumption) | exact kp3 b43 (by assumption) | exact kp3 b44 (by assumption) | exact kp3 b45 (by assumption) | exact kp3 b46 (by assumption) | exact kp3 b47 (by assumption) | exact kp3 b48 (by assumption) | exact kp3 b49 (by assumption) | exact kp3 (below_alloc _) (by assumption))
        (first
          | (go_at_call 18; refine (half_is _ (GD.out.below (hB.trans (hBW.mono hB.size)))).mono ?_; rintro e w41 ⟨rfl, b41⟩; replace hBW := hBW.trans (b41.mono hBW.size); replace q00 := below_cell b41 q00; replace q01 := below_cell b41 q01; replace q02 := below_cell b41 q02)
          | (go_at_call 8; go_at_call_of 8 (Value.agg #[Value.bool s0, Value.slice a0 n0 c0, Value.slice b0 m0 d0]); (fail_if_success clear b42); refine (ltwin_is s0 a0 n0 c0 X0 b0 m0 d0 Y0 _ hc0 (by omega) (sb hS0 hB hBW) hd0 (by omega) (sb hT0 hB hBW)).mono ?_; rintro e w42 ⟨p42, q42, rfl, hp42, hq42⟩; have b42 := hp42.below; replace hp42 := hp42.back hBW; replace hq42 := hq42.back hBW; replace hBW := hBW.trans (b42.mono hBW.size); replace q00 := below_cell b42 q00; replace q01 := below_cell b42 q01; replace q02 := below_cell b42 q02)
          | (go_at_call 20; (fail_if_success clear b43); refine (qFloor_is s0 p42 n0 n0 X0 q42 m0 m0 Y0 Z G _ (Nat.le_refl _) (by omega) hp42.seg (Nat.le_refl _) (by omega) hq42.seg G1.out).mono ?_; rintro e w43 ⟨p43, rfl, hp43⟩; have b43 := hp43.below; replace hp43 := hp43.back hBW; replace hBW := hBW.trans (b43.mono hBW.size); replace q00 := below_cell b43 q00; replace q01 := below_cell b43 q01; replace q02 := below_cell b43 q02; replace hp42 := hp42.later b43; replace hq42 := hq42.later b43; clear hp42 hq42)
          | (go_at_call 21; (fail_if_success clear b44); refine (vqFloor_is s0 a0 n0 c0 X0 b0 m0 d0 Y0 Z G _ hc0 (by omega) (sb hS0 hB hBW) hd0 (by omega) (sb hT0 hB hBW) G1.out).mono ?_; rintro e w44 ⟨p44, rfl, hp44⟩; have b44 := hp44.below; replace hp44 := hp44.back hBW; replace hBW := hBW.trans (b44.mono hBW.size); replace q00 := below_cell b44 q00; replace q01 := below_cell b44 q01; replace q02 := below_cell b44 q02; replace hp43 := hp43.later b44)
          | (go_at_call 19; go_at_call_of 19 (Value.agg #[Value.bool (ng Z), Value.slice p43 (ln (am Z)) (ln (am Z))]); refine (sameInt_is Z p43 p44 _ (by omega) hp43.seg hp44.seg).mono ?_; rintro e w45 ⟨rfl, b45⟩; replace hBW := hBW.trans (b45.mono hBW.size); replace q00 := below_cell b45 q00; replace q01 := below_cell b45 q01; replace q02 := below_cell b45 q02; replace hp43 := hp43.later b45; replace hp44 := hp44.later b45; clear hp43 hp44)
          | (go_at_call 8; go_at_call_of 8 (Value.agg #[Value.bool s0, Value.slice a0 n0 c0, Value.slice b0 m0 d0]); (fail_if_success clear b46); refine (ltwin_is s0 a0 n0 c0 X0 b0 m0 d0 Y0 _ hc0 (by omega) (sb hS0 hB hBW) hd0 (by omega) (sb hT0 hB hBW)).mono ?_; rintro e w46 ⟨p46, q46, rfl, hp46, hq46⟩; have b46 := hp46.below; replace hp46 := hp46.back hBW; replace hq46 := hq46.back hBW; replace hBW := hBW.trans (b46.mono hBW.size); replace q00 := below_cell b46 q00; replace q01 := below_cell b46 q01; replace q02 := below_cell b46 q02)
          | (go_at_call 22; (fail_if_success clear b47); refine (qCeil_is s0 p46 n0 n0 X0 q46 m0 m0 Y0 Y H Y2 _ (Nat.le_refl _) (by omega) hp46.seg (Nat.le_refl _) (by omega) hq46.seg G2.out G3.out).mono ?_; rintro e w47 ⟨p47, rfl, hp47⟩; have b47 := hp47.below; replace hp47 := hp47.back hBW; replace hBW := hBW.trans (b47.mono hBW.size); replace q00 := below_cell b47 q00; replace q01 := below_cell b47 q01; replace q02 := below_cell b47 q02; replace hp46 := hp46.later b47; replace hq46 := hq46.later b47; clear hp46 hq46)
          | (go_at_call 23; (fail_if_success clear b48); refine (vqCeil_is s0 a0 n0 c0 X0 b0 m0 d0 Y0 Y H Y2 _ hc0 (by omega) (sb hS0 hB hBW) hd0 (by omega) (sb hT0 hB hBW) G2.out G3.out).mono ?_; rintro e w48 ⟨p48, rfl, hp48⟩; have b48 := hp48.below; replace hp48 := hp48.back hBW; replace hBW := hBW.trans (b48.mono hBW.size); replace q00 := below_cell b48 q00; replace q01 := below_cell b48 q01; replace q02 := below_cell b48 q02; replace hp47 := hp47.later b48)
          | (go_at_call 19; go_at_call_of 19 (Value.agg #[Value.bool (ng Y2), Value.slice p47 (ln (am Y2)) (ln (am Y2))]); refine (sameInt_is Y2 p47 p48 _ (by omega) hp47.seg hp48.seg).mono ?_; rintro e w49 ⟨rfl, b49⟩; replace hBW := hBW.trans (b49.mono hBW.size); replace q00 := below_cell b49 q00; replace q01 := below_cell b49 q01; replace q02 := below_cell b49 q02; replace hp47 := hp47.later b49; replace hp48 := hp48.later b49; clear hp47 hp48))
    | fail
  go_wp2
  go_ret
  exact ⟨rfl, hB.trans (hBW.mono hB.size)⟩

theorem gTab : Tryz.prog.globalNamed "fulcrum/nat.digits" = some 1 := by kernel_rfl
theorem gTabType : (Tryz.prog.globals[1]?).map (·.type) = some 120 := by kernel_rfl
theorem cellsA : Tryz.prog.cellsOf 120 = 16 := by kernel_rfl
theorem cells8 : Tryz.prog.cellsOf 5 = 1 := by kernel_rfl
theorem table {W : World} (h : laidMetH Tryz.prog Rows.ratioFloorsRow.laid W) : Lib.TabIs Tryz.prog W "fulcrum/nat.digits" .u8 [48, 49, 50, 51, 52, 53, 54, 55, 56, 57, 97, 98, 99, 100, 101, 102] :=
  Lib.tabIs_of_head (rest := []) gTab gTabType Tryz.underlying120 Tryz.underlying5 cells8 cellsA h
theorem digits_of {W : World} (h : laidMetH Tryz.prog Rows.ratioFloorsRow.laid W) : Digits W :=
  ⟨(table h).cell gTab 0 (by decide), (table h).cell gTab 1 (by decide), (table h).cell gTab 2 (by decide), (table h).cell gTab 3 (by decide), (table h).cell gTab 4 (by decide)⟩

set_option maxRecDepth 100000 in
theorem contract (H : Type) (enc : TypeId × Value → H) (W : World) (base : Nat) (args : Array Value) (ds gs : List (DataW H)) (before : List MemPlace)
    (hval : ∀ (j : Nat) t v, Tryz.f4.params[j]? = some t → args[j]? = some v → Value.okWide Tryz.prog W .any base t v)
    (hW : DataW.Whole enc Tryz.prog Tryz.f4.params.toList Rows.ratioFloorsSpec.vars false W args.toList ds gs before)
    (hsz : (DataW.weightsEach Tryz.prog (Tryz.f4.params.toList ++ Rows.ratioFloorsSpec.plain.varTypes Tryz.prog) (ds ++ gs)).all (· ≤ reachBytes) = true) (hL : laidMetH Tryz.prog Rows.ratioFloorsRow.laid W) :
    Calls Tryz.prog 4 args W fun e W' => ∃ v, e = .returned v ∧ Rows.ratioFloorsSpec.post enc Tryz.prog Tryz.f4 false true false false W args v W' := by
  have hW' := hW
  obtain ⟨p, q, hA0, hV, rfl, hfz, hnd⟩ := hW
  have hA : DataW.TrodAll enc Tryz.prog W 0 (fun _ => true) true Tryz.f4.params.toList args.toList ds p := hA0
  rw [Tryz.params4] at hA hval hsz
  obtain ⟨v0, vs0, d0, ds0, p0, q0, hargs, rfl, rfl, h0, r0⟩ := trodAll_cons hA
  obtain ⟨rfl, rfl, rfl⟩ := trodAll_nil r0
  obtain rfl : args = #[v0] := by cases args; simp_all
  obtain ⟨rfl, rfl⟩ := trodVars_none hV
  have lt0 : ∀ x ∈ p0, x.block < W.heap.size := by obtain ⟨m, hm⟩ := h0; exact DataW.trod_lt m _ _ _ hm
  obtain ⟨rs0, ra0, rn0, rc0, rX0, rb0, rm0, re0, rY0, rfl, hS0, hc0, hb0, hT0, hd0, hk0, hu0, hv0⟩ := open_Rat (hval 0 27 v0 rfl rfl) h0 (sized_at 0 hsz rfl rfl)
  clear hA0
  simp only [List.append_nil] at hW'
  refine (walk rs0 ra0 rn0 rc0 rX0 rb0 rm0 re0 rY0 W hc0 hb0 hS0 hd0 hk0 hT0 (digits_of hL)).mono fun e W' ⟨he, bel⟩ => ?_
  subst he
  exact ⟨_, rfl, _, _, _, [], _, [], hW', trodAll_mk1 (shut_bool Tryz.underlying4 _), (trodAll_cons_mk (Below.trod laidOut (by kernel_rfl) (of_decide_eq_true (by kernel_rfl)) h0 bel lt0) trodAll_mk0), rfl, bel.frame _, fun h => by cases h⟩

def setCells (cs : Array Value) : Obj → Obj
  | .cells _ t frozen => .cells cs t frozen
  | o => o
set_option maxRecDepth 100000 in
noncomputable def laidWorld (os : Os) : World :=
  { World.holding Tryz.prog os ⟨#[], #[], []⟩ with heap := ((World.holding Tryz.prog os ⟨#[], #[], []⟩).heap.modify 1 (setCells #[.int .u8 48, .int .u8 49, .int .u8 50, .int .u8 51, .int .u8 52, .int .u8 53, .int .u8 54, .int .u8 55, .int .u8 56, .int .u8 57, .int .u8 97, .int .u8 98, .int .u8 99, .int .u8 100, .int .u8 101, .int .u8 102])) }
set_option maxRecDepth 100000 in
theorem laid_met (os : Os) : laidMet Tryz.prog Rows.ratioFloorsRow.laid ((laidWorld os).forCall (fun _ _ => 0) ⟨#[], #[.agg #[.bool false, .slice none 0 0, .slice none 0 0]], []⟩).memory :=
  laidMet_of_run' 8 (by kernel_rfl) (by kernel_rfl)
theorem reads (os : Os) {H : Type} (enc : TypeId × Value → H) : ∃ places, DataW.whole enc Tryz.prog ((laidWorld os).forCall (fun _ _ => 0) ⟨#[], #[.agg #[.bool false, .slice none 0 0, .slice none 0 0]], []⟩).memory Tryz.f4.params.toList Rows.ratioFloorsSpec.vars false [Value.agg #[.bool false, .slice none 0 0, .slice none 0 0]] 8 = some ([.agg [.agg [.lit (.bool false), .nil], .nil]], [], places) :=
  ⟨[], by kernel_rfl⟩

set_option maxRecDepth 100000 in
theorem liftedUpto (os : Os) (started : os.Started) (H : Type) (enc : TypeId × Value → H) (F : Stop.Interp) :
    ReturnsInHanded {} Tryz.checked os 4 .any ((OpenSpec.ofChange Rows.ratioFloorsSpec).preRow enc Tryz.prog Tryz.f4 Rows.ratioFloorsRow.domain false Rows.ratioFloorsRow.laid) (((OpenSpec.ofChange Rows.ratioFloorsSpec).at F).post enc Tryz.prog Tryz.f4 false true false false) := by
  obtain ⟨places, hx⟩ := reads os enc
  refine returnsInHanded_of_row (C := Tryz.checked) (s := OpenSpec.ofChange Rows.ratioFloorsSpec) own started (by kernel_rfl) Tryz.func4
    (witness_row_at (enc := enc) (C := Tryz.checked) false (laidWorld os) #[.agg #[.bool false, .slice none 0 0, .slice none 0 0]] rfl (by kernel_rfl) (by kernel_rfl) (by kernel_rfl)
      (OpenSpec.preRow_of_cond 8 hx (by kernel_rfl) (fun k hk => by cases hk) (by kernel_rfl) (laid_met os))) ?_
  intro W base args ds gs before hval hW _ hk hsz hL _ _
  exact contract H enc W base args ds gs before hval hW hsz hL

theorem saidUpto : Rows.RatioFloorsSaid :=
  OpenClaim.holds_of_cond 4 Tryz.f4 rfl rfl rfl rfl rfl rfl rfl ⟨rfl, rfl, rfl, rfl, rfl⟩ rfl rfl rfl rfl rfl (by kernel_rfl) Tryz.func4 (by kernel_rfl)
    (of_decide_eq_true (by kernel_rfl)) (by unfold Func.isWrapper; first | (rw [if_pos (by decide +kernel)]; kernel_rfl) | (rw [if_neg (by decide +kernel)]; exact ⟨rfl, rfl⟩))
    (fun os started H enc _ F => by rw [OpenClaim.pre_eq_preRow]; exact liftedUpto os started H enc F)

theorem plain (f : FuncId) (fn : Func) (hf : Tryz.pinned.checked.prog.funcNamed "fulcrum/fulcrumlaw03.RatioFloors" = some f) (hfn : Tryz.pinned.checked.prog.funcs[f]? = some fn) :
    false = Tryz.pinned.checked.prog.looks [] ∧ ∀ (j : Nat) t, fn.params[j]? = some t → Tryz.pinned.checked.prog.wantsStandIn t = false := by
  obtain rfl : f = 4 := Option.some.inj ((show Tryz.prog.funcNamed "fulcrum/fulcrumlaw03.RatioFloors" = some 4 by kernel_rfl).symm.trans hf) |>.symm
  obtain rfl : fn = Tryz.f4 := (Option.some.inj (Tryz.func4.symm.trans hfn)).symm
  refine ⟨by kernel_rfl, fun j t ht => ?_⟩
  rw [Tryz.params4] at ht
  have hm := Array.mem_of_getElem? ht
  simp only [List.mem_toArray, List.mem_cons, List.not_mem_nil, or_false] at hm
  subst hm
  · exact (show Tryz.prog.wantsStandIn 27 = false by kernel_rfl)

theorem cardUpto : Rows.RatioFloorsCardSaid :=
  Claim7.holds_tied_plain_at .later [] _ _ _ _ saidUpto (fun _ h => by cases h) (by kernel_rfl) (fun _ h => by cases h) ratioFloors_row_tie rfl ⟨rfl, rfl⟩ (by kernel_rfl) rfl plain (by kernel_rfl)
end Go.Proofs.YtgoocgecigkblaaGreatDoor.ratioFloors
namespace Go.Proofs.YtgoocgecigkblaaGreatDoor
theorem ratioFloors_holds : Rows.RatioFloorsCardSaid := ratioFloors.cardUpto
#print axioms ratioFloors_holds
end Go.Proofs.YtgoocgecigkblaaGreatDoor
