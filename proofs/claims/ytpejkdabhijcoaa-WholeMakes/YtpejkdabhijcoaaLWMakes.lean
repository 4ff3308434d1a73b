/-
  WholeMakes: what Of, Small, Norm, Neg, Abs and Sign tell.
-/
import Derived.Test.YtpejkdabhijcoaaWI5
import Derived.Test.YtpejkdabhijcoaaOpenI
namespace Go.Proofs.Ytpejkdabhijcoaa.wholeMakes
open Go.ChangeShapes Go.WideShapes Go.ChangeAt Go.RowKit Go.Proofs.Ytpejkdabhijcoaa
set_option linter.unusedVariables false

set_option maxHeartbeats 4000000 in
set_option maxRecDepth 100000 in
theorem walk (z : Int) (s1 : Bool) (a1 : Option Addr) (len1 cap1 X1 : Nat) (w : World) (hz1 : -9223372036854775808 ≤ z) (hz2 : z ≤ 9223372036854775807) (hS1 : Seg w a1 X1 len1) (hc1 : len1 ≤ cap1) (hb1 : len1 ≤ 35184372087808) :
    Calls Try.prog 3 #[.int .i64 z, .agg #[.bool s1, .slice a1 len1 cap1]] w fun e w' => e = .returned (.bool true) ∧ Below w.heap.size w w' := by
  obtain ⟨Z, hZ⟩ : ∃ Z, sg s1 X1 = Z := ⟨_, rfl⟩
  obtain ⟨Zn, hZn⟩ : ∃ Z, -(sg s1 X1) = Z := ⟨_, rfl⟩
  have hlx := ln_le_of_lt hS1.1
  have hlz : ln (am Z) ≤ 35184372087808 := by rw [← hZ, am_sg]; omega
  have hln : ln (am Zn) ≤ 35184372087808 := by rw [← hZn, ← sg_not, am_sg]; omega
  have hlo : ln (am z) ≤ 2 := ln_le_of_lt (by rw [BB2]; unfold am; omega)
  obtain ⟨V, hV⟩ : ∃ V, smI Z = V := ⟨_, rfl⟩
  obtain ⟨B, hBf⟩ : ∃ B, fits Z = B := ⟨_, rfl⟩
  obtain ⟨C, hC⟩ : ∃ C, sgn Z = C := ⟨_, rfl⟩
  have hcc : (C == C) = true := by simp
  have hvv : (V != V) = false := by simp
  have hbb : (B != B) = false := by simp
  have hzz : (z != z) = false := by simp
  have hsn := sameB_self (ln X1) X1
  have K1 : ∀ w', Seg w' a1 X1 len1 → Calls Try.prog 9 #[.agg #[.bool s1, .slice a1 len1 cap1]] w' fun e w'' => e = .returned (.tuple #[.int .i64 V, .bool B]) ∧ Below w'.heap.size w' w'' :=
    fun w' h1 => by rw [← hV, ← hBf]; exact wSmall_is s1 a1 len1 cap1 X1 Z w' hc1 (by omega) h1 hZ
  have K2 : ∀ w', Seg w' a1 X1 len1 → Calls Try.prog 10 #[.agg #[.bool s1, .slice a1 len1 cap1]] w' fun e w'' => e = .returned (.tuple #[.int .i64 V, .bool B]) ∧ Below w'.heap.size w' w'' :=
    fun w' h1 => by rw [← hV, ← hBf]; exact vSmall_is s1 a1 len1 cap1 X1 Z w' (by omega) h1 hZ
  have K3 : ∀ w' ao, Seg w' ao (am z) (ln (am z)) → Calls Try.prog 9 #[.agg #[.bool (ng z), .slice ao (ln (am z)) (ln (am z))]] w' fun e w'' => e = .returned (.tuple #[.int .i64 z, .bool true]) ∧ Below w'.heap.size w' w'' :=
    fun w' ao h1 => by
      have := wSmall_is (ng z) ao _ _ (am z) z w' (Nat.le_refl _) (by omega) h1 (sg_na z)
      rwa [(fits_of hz1 hz2).1, (fits_of hz1 hz2).2] at this
  have K4 : ∀ w', Seg w' a1 X1 len1 → Calls Try.prog 21 #[.agg #[.bool s1, .slice a1 len1 cap1]] w' fun e w'' => e = .returned (.int .i64 C) ∧ Below w'.heap.size w' w'' :=
    fun w' h1 => by rw [← hC]; exact wSign_is s1 a1 len1 cap1 X1 Z w' hc1 (by omega) h1 hZ
  have K5 : ∀ w', Seg w' a1 X1 len1 → Calls Try.prog 22 #[.agg #[.bool s1, .slice a1 len1 cap1]] w' fun e w'' => e = .returned (.int .i64 C) ∧ Below w'.heap.size w' w'' :=
    fun w' h1 => by rw [← hC]; exact vSign_is s1 a1 len1 cap1 X1 Z w' (by omega) h1 hZ
  have HK1 := hide' K1
  have HK2 := hide' K2
  have HK3 := hide' K3
  have HK4 := hide' K4
  have HK5 := hide' K5
  have HZ := hide' hZ
  have HZn := hide' hZn
  clear K1 K2 K3 K4 K5 hZ hZn hV hBf hC
  go_enter Try.func3, Try.ntmps3
  go_wp2_with fail
  have q00 : ((w.alloc (.cells #[.bool s1, .slice a1 len1 cap1] 25))).cell? ⟨w.heap.size, 0, none⟩ = some (.bool s1) := by go_simp
  have q01 : ((w.alloc (.cells #[.bool s1, .slice a1 len1 cap1] 25))).cell? ⟨w.heap.size, 1, none⟩ = some (.slice a1 len1 cap1) := by go_simp
  have hB : Below w.heap.size w ((w.alloc (.cells #[.bool s1, .slice a1 len1 cap1] 25))) := ((Below.refl _ _).alloc (by (try simp only [World.size_alloc]); omega) _)
  have hz : ((w.alloc (.cells #[.bool s1, .slice a1 len1 cap1] 25))).heap.size = w.heap.size + 1 := by simp only [World.size_alloc]
  generalize (w.alloc (.cells #[.bool s1, .slice a1 len1 cap1] 25)) = W at q00 q01 hB hz ⊢
  have hBW : Below W.heap.size W W := Below.refl _ _
  refine (HK1.out _ (sb hS1 hB hBW)).mono ?_
  rintro e w3 ⟨rfl, b3⟩
  replace hBW := hBW.trans (b3.mono hBW.size)
  replace q00 := below_cell b3 q00
  replace q01 := below_cell b3 q01
  go_wp2_with fail
  refine (HK2.out _ (sb hS1 hB hBW)).mono ?_
  rintro e w4 ⟨rfl, b4⟩
  replace hBW := hBW.trans (b4.mono hBW.size)
  replace q00 := below_cell b4 q00
  replace q01 := below_cell b4 q01
  go_wp2_with fail
  replace hBW := hBW.drew
  go_region_held3 (fun w' => w'.cell? ⟨w.heap.size, 0, none⟩ = some (.bool s1) ∧ w'.cell? ⟨w.heap.size, 1, none⟩ = some (.slice a1 len1 cap1) ∧ Below w.heap.size w w')
    (first | exact ⟨q00, q01, hB.trans (hBW.mono hB.size)⟩ | exact kp2 b1 (by assumption) | exact kp2 b2 (by assumption) | exact kp2 b3 (by assumption) | exact kp2 b4 (by assumption) | exact kp2 b5 (by assumption) | exact kp2 b6 (by assumption) | exact kp2 b7 (by assumption) | exact kp2 b8 (by assumption) | exact kp2 b9 (by assumption) | exact kp2 b10 (by assumption) | exact kp2 (below_alloc _) (by assumption))
    (first
      | (go_at_call 12; (fail_if_success clear b5); refine (wOf_is z _ hz1 hz2).mono ?_; rintro e w5 ⟨a5, rfl, h1⟩; have b5 := h1.below; replace h1 := h1.back hBW; replace hBW := hBW.trans (b5.mono hBW.size); replace q00 := below_cell b5 q00; replace q01 := below_cell b5 q01)
      | (go_at_call 13; (fail_if_success clear b6); refine (vOf_is z _ hz1 hz2).mono ?_; rintro e w6 ⟨a6, rfl, h2⟩; have b6 := h2.below; replace h2 := h2.back hBW; replace hBW := hBW.trans (b6.mono hBW.size); replace q00 := below_cell b6 q00; replace q01 := below_cell b6 q01; replace h1 := h1.later b6)
      | (go_at_call_of 11 (Value.agg #[Value.bool (ng (z)), Value.slice a5 (ln (am (z))) (ln (am (z)))]); refine (sameI_is (z) a5 a6 _ _ _ (by omega) h1.seg h2.seg).mono ?_; rintro e w7 ⟨rfl, b7⟩; replace hBW := hBW.trans (b7.mono hBW.size); replace q00 := below_cell b7 q00; replace q01 := below_cell b7 q01; replace h1 := h1.later b7; replace h2 := h2.later b7)
      | (go_at_call 14; (fail_if_success clear b8); refine (wNorm_is s1 a1 len1 cap1 X1 Z _ hc1 (by omega) (sb hS1 hB hBW) HZ.out).mono ?_; rintro e w8 ⟨a8, rfl, h3⟩; have b8 := h3.below; replace h3 := h3.back hBW; replace hBW := hBW.trans (b8.mono hBW.size); replace q00 := below_cell b8 q00; replace q01 := below_cell b8 q01; replace h1 := h1.later b8; replace h2 := h2.later b8)
      | (go_at_call 15; (fail_if_success clear b9); refine (vNorm_is s1 a1 len1 cap1 X1 Z _ (by omega) (sb hS1 hB hBW) HZ.out).mono ?_; rintro e w9 ⟨a9, rfl, h4⟩; have b9 := h4.below; replace h4 := h4.back hBW; replace hBW := hBW.trans (b9.mono hBW.size); replace q00 := below_cell b9 q00; replace q01 := below_cell b9 q01; replace h1 := h1.later b9; replace h2 := h2.later b9; replace h3 := h3.later b9)
      | (go_at_call_of 11 (Value.agg #[Value.bool (ng (Z)), Value.slice a8 (ln (am (Z))) (ln (am (Z)))]); refine (sameI_is (Z) a8 a9 _ _ _ (by omega) h3.seg h4.seg).mono ?_; rintro e w10 ⟨rfl, b10⟩; replace hBW := hBW.trans (b10.mono hBW.size); replace q00 := below_cell b10 q00; replace q01 := below_cell b10 q01; replace h1 := h1.later b10; replace h2 := h2.later b10; replace h3 := h3.later b10; replace h4 := h4.later b10))
  clear h1 h2 h3 h4
  go_wp2_with fail
  refine (wOf_is z _ hz1 hz2).mono ?_
  rintro e w11 ⟨a11, rfl, h1⟩
  have b11 := h1.below
  replace h1 := h1.back hBW
  replace hBW := hBW.trans (b11.mono hBW.size)
  replace q00 := below_cell b11 q00
  replace q01 := below_cell b11 q01
  go_wp2_with fail
  refine (HK3.out _ a11 h1.seg).mono ?_
  rintro e w12 ⟨rfl, b12⟩
  replace hBW := hBW.trans (b12.mono hBW.size)
  replace q00 := below_cell b12 q00
  replace q01 := below_cell b12 q01
  replace h1 := h1.later b12
  clear h1
  go_wp2_with fail
  replace hBW := hBW.drew
  go_region_held3 (fun w' => w'.cell? ⟨w.heap.size, 0, none⟩ = some (.bool s1) ∧ w'.cell? ⟨w.heap.size, 1, none⟩ = some (.slice a1 len1 cap1) ∧ Below w.heap.size w w')
    (first | exact ⟨q00, q01, hB.trans (hBW.mono hB.size)⟩ | exact kp2 b1 (by assumption) | exact kp2 b2 (by assumption) | exact kp2 b3 (by assumption) | exact kp2 b4 (by assumption) | exact kp2 b5 (by assumption) | exact kp2 b6 (by assumption) | exact kp2 b7 (by assumption) | exact kp2 b8 (by assumption) | exact kp2 b9 (by assumption) | exact kp2 b10 (by assumption) | exact kp2 b11 (by assumption) | exact kp2 b12 (by assumption) | exact kp2 b13 (by assumption) | exact kp2 b14 (by assumption) | exact kp2 b15 (by assumption) | exact kp2 (below_alloc _) (by assumption))
    (first
      | (go_at_call 16; (fail_if_success clear b13); refine (wNeg_is s1 a1 len1 cap1 X1 Zn _ hc1 (by omega) (sb hS1 hB hBW) HZn.out).mono ?_; rintro e w13 ⟨a13, rfl, h1⟩; have b13 := h1.below; replace h1 := h1.back hBW; replace hBW := hBW.trans (b13.mono hBW.size); replace q00 := below_cell b13 q00; replace q01 := below_cell b13 q01)
      | (go_at_call 17; (fail_if_success clear b14); refine (vNeg_is s1 a1 len1 cap1 X1 Zn _ (by omega) (sb hS1 hB hBW) HZn.out).mono ?_; rintro e w14 ⟨a14, rfl, h2⟩; have b14 := h2.below; replace h2 := h2.back hBW; replace hBW := hBW.trans (b14.mono hBW.size); replace q00 := below_cell b14 q00; replace q01 := below_cell b14 q01; replace h1 := h1.later b14)
      | (go_at_call_of 11 (Value.agg #[Value.bool (ng (Zn)), Value.slice a13 (ln (am (Zn))) (ln (am (Zn)))]); refine (sameI_is (Zn) a13 a14 _ _ _ (by omega) h1.seg h2.seg).mono ?_; rintro e w15 ⟨rfl, b15⟩; replace hBW := hBW.trans (b15.mono hBW.size); replace q00 := below_cell b15 q00; replace q01 := below_cell b15 q01; replace h1 := h1.later b15; replace h2 := h2.later b15))
  clear h1 h2
  go_wp2_with fail
  replace hBW := hBW.drew
  go_region_held3 (fun w' => w'.cell? ⟨w.heap.size, 0, none⟩ = some (.bool s1) ∧ w'.cell? ⟨w.heap.size, 1, none⟩ = some (.slice a1 len1 cap1) ∧ Below w.heap.size w w')
    (first | exact ⟨q00, q01, hB.trans (hBW.mono hB.size)⟩ | exact kp2 b1 (by assumption) | exact kp2 b2 (by assumption) | exact kp2 b3 (by assumption) | exact kp2 b4 (by assumption) | exact kp2 b5 (by assumption) | exact kp2 b6 (by assumption) | exact kp2 b7 (by assumption) | exact kp2 b8 (by assumption) | exact kp2 b9 (by assumption) | exact kp2 b10 (by assumption) | exact kp2 b11 (by assumption) | exact kp2 b12 (by assumption) | exact kp2 b13 (by assumption) | exact kp2 b14 (by assumption) | exact kp2 b15 (by assumption) | exact kp2 b16 (by assumption) | exact kp2 b17 (by assumption) | exact kp2 b18 (by assumption) | exact kp2 b19 (by assumption) | exact kp2 b20 (by assumption) | exact kp2 (below_alloc _) (by assumption))
    (first
      | (go_at_call 19; (fail_if_success clear b16); refine (wAbs_any s1 a1 len1 cap1 X1 _ hc1 (by omega) (sb hS1 hB hBW)).mono ?_; rintro e w16 ⟨a16, rfl, h1⟩; have b16 := h1.below; replace h1 := h1.back hBW; replace hBW := hBW.trans (b16.mono hBW.size); replace q00 := below_cell b16 q00; replace q01 := below_cell b16 q01)
      | (go_at_call 20; (fail_if_success clear b17); refine (vAbs_any s1 a1 len1 cap1 X1 _ (by omega) (sb hS1 hB hBW)).mono ?_; rintro e w17 ⟨a17, rfl, h2⟩; have b17 := h2.below; replace h2 := h2.back hBW; replace hBW := hBW.trans (b17.mono hBW.size); replace q00 := below_cell b17 q00; replace q01 := below_cell b17 q01; replace h1 := h1.later b17)
      | (go_at_call 18; refine (SameNat_any a16 a17 _ _ X1 _ _ X1 _ (by omega) (by omega) h1.seg h2.seg).mono ?_; rintro e w18 ⟨rfl, hd⟩; have b18 := hd.below w17.heap.size; replace hBW := hBW.trans (b18.mono hBW.size); replace q00 := below_cell b18 q00; replace q01 := below_cell b18 q01; replace h1 := h1.later b18; replace h2 := h2.later b18)
      | (go_at_call 21; refine (HK4.out _ (sb hS1 hB hBW)).mono ?_; rintro e w19 ⟨rfl, b19⟩; replace hBW := hBW.trans (b19.mono hBW.size); replace q00 := below_cell b19 q00; replace q01 := below_cell b19 q01; replace h1 := h1.later b19; replace h2 := h2.later b19)
      | (go_at_call 22; refine (HK5.out _ (sb hS1 hB hBW)).mono ?_; rintro e w20 ⟨rfl, b20⟩; replace hBW := hBW.trans (b20.mono hBW.size); replace q00 := below_cell b20 q00; replace q01 := below_cell b20 q01; replace h1 := h1.later b20; replace h2 := h2.later b20))
  go_wp2
  go_ret
  exact ⟨rfl, hB.trans (hBW.mono hB.size)⟩

set_option maxRecDepth 100000 in
theorem contract (H : Type) (enc : TypeId × Value → H) (W : World) (base : Nat) (args : Array Value) (ds gs : List (DataW H)) (before : List MemPlace)
    (hval : ∀ (j : Nat) t v, Try.f3.params[j]? = some t → args[j]? = some v → Value.okWide Try.prog W .any base t v)
    (hW : DataW.Whole enc Try.prog Try.f3.params.toList Rows.wholeMakesSpec.vars false W args.toList ds gs before)
    (hsz : (DataW.weightsEach Try.prog (Try.f3.params.toList ++ Rows.wholeMakesSpec.plain.varTypes Try.prog) (ds ++ gs)).all (· ≤ reachBytes) = true) :
    Calls Try.prog 3 args W fun e W' => ∃ v, e = .returned v ∧ Rows.wholeMakesSpec.post enc Try.prog Try.f3 false true false false W args v W' := by
  have hW' := hW
  obtain ⟨p, q, hA0, hV, rfl, hfz, hnd⟩ := hW
  have hA : DataW.TrodAll enc Try.prog W 0 (fun _ => true) true Try.f3.params.toList args.toList ds p := hA0
  rw [Try.params3] at hA hval hsz
  obtain ⟨v0, vs0, d0, ds0, p0, q0, hargs, rfl, rfl, h0, r0⟩ := trodAll_cons hA
  obtain ⟨v1, vs1, d1, ds1, p1, q1, rfl, rfl, rfl, h1, r1⟩ := trodAll_cons r0
  obtain ⟨rfl, rfl, rfl⟩ := trodAll_nil r1
  obtain rfl : args = #[v0, v1] := by cases args; simp_all
  obtain ⟨rfl, rfl⟩ := trodVars_none hV
  obtain ⟨z0, rfl, rfl, rfl, w0⟩ := open_int Try.underlying2 (hval 0 2 v0 rfl rfl) h0
  have bz0 := bounds_i64 w0
  have lt1 : ∀ x ∈ p1, x.block < W.heap.size := by obtain ⟨m, hm⟩ := h1; exact DataW.trod_lt m _ _ _ hm
  obtain ⟨s1, a1, len1, cap1, X1, rfl, hS1, hc1, hb1, hu1⟩ := open_Int (hval 1 25 v1 rfl rfl) h1 (sized_at 1 hsz rfl rfl)
  clear hA0
  simp only [List.append_nil] at hW'
  refine (walk z0 s1 a1 len1 cap1 X1 W (by omega) (by omega) hS1 hc1 hb1).mono fun e W' ⟨he, bel⟩ => ?_
  subst he
  exact ⟨_, rfl, _, _, _, [], _, [], hW', trodAll_mk1 (shut_bool Try.underlying4 _), (trodAll_cons_mk (shut_int Try.underlying2 w0) (trodAll_cons_mk (Below.trod laidOut (by kernel_rfl) (of_decide_eq_true (by kernel_rfl)) h1 bel lt1) trodAll_mk0)), rfl, bel.frame _, fun h => by cases h⟩

set_option maxRecDepth 100000 in
theorem lifted (os : Os) (started : os.Started) (H : Type) (enc : TypeId × Value → H) :
    ReturnsInHanded {} Try.checked os 3 .any (Rows.wholeMakesSpec.pre6 enc Try.prog Try.f3 Rows.wholeMakesRow.domain false) (Rows.wholeMakesSpec.post enc Try.prog Try.f3 false true false false) := by
  refine returnsInHanded_of_change_sized (C := Try.checked) own started (by kernel_rfl) Try.func3
    (ChangeSpec.witness6 (enc := enc) (C := Try.checked) false ⟨#[], #[.int .i64 0, .agg #[.bool false, .slice none 0 0]], []⟩ 8 (by kernel_rfl) (by kernel_rfl) (by kernel_rfl) (by kernel_rfl)) ?_
  intro W base args ds gs before hval hW _ hsz _
  exact contract H enc W base args ds gs before hval hW hsz

theorem over : Rows.wholeMakesRow.holds Try.pinned (OpenSpec.ofChange Rows.wholeMakesSpec) :=
  OpenClaim.holds_of_wide 3 Try.f3 rfl rfl rfl rfl rfl rfl rfl ⟨rfl, rfl, rfl, rfl, rfl⟩ rfl rfl rfl rfl rfl (by kernel_rfl) Try.func3 (by kernel_rfl)
    (of_decide_eq_true (by kernel_rfl)) (by unfold Func.isWrapper; first | (rw [if_pos (by decide +kernel)]; kernel_rfl) | (rw [if_neg (by decide +kernel)]; exact ⟨rfl, rfl⟩))
    (fun os started H enc _ => lifted os started H enc)

end Go.Proofs.Ytpejkdabhijcoaa.wholeMakes
namespace Go.Proofs.Ytpejkdabhijcoaa
theorem wholeMakes_holds : Rows.WholeMakesSaid := wholeMakes.over
#print axioms wholeMakes_holds
end Go.Proofs.Ytpejkdabhijcoaa
