/-
  WholeReckons: sums, differences, products, and the order.
-/
import Derived.Test.YtpejkdabhijcoaaWI5
import Derived.Test.YtpejkdabhijcoaaOpenI
namespace Go.Proofs.Ytpejkdabhijcoaa.wholeReckons
open Go.ChangeShapes Go.WideShapes Go.ChangeAt Go.RowKit Go.Proofs.Ytpejkdabhijcoaa
set_option linter.unusedVariables false

set_option maxHeartbeats 4000000 in
set_option maxRecDepth 100000 in
theorem walk (s0 : Bool) (a0 : Option Addr) (len0 cap0 X0 : Nat) (s1 : Bool) (a1 : Option Addr) (len1 cap1 X1 : Nat) (w : World) (hS0 : Seg w a0 X0 len0) (hc0 : len0 ≤ cap0) (hb0 : len0 ≤ 35184372087808) (hS1 : Seg w a1 X1 len1) (hc1 : len1 ≤ cap1) (hb1 : len1 ≤ 35184372087808) :
    Calls Try.prog 4 #[.agg #[.bool s0, .slice a0 len0 cap0], .agg #[.bool s1, .slice a1 len1 cap1]] w fun e w' => e = .returned (.bool true) ∧ Below w.heap.size w w' := by
  obtain ⟨Za, hza⟩ : ∃ Z, sg s0 X0 + sg s1 X1 = Z := ⟨_, rfl⟩
  obtain ⟨Zs, hzs⟩ : ∃ Z, sg s0 X0 - sg s1 X1 = Z := ⟨_, rfl⟩
  obtain ⟨Zm, hzm⟩ : ∃ Z, sg s0 X0 * sg s1 X1 = Z := ⟨_, rfl⟩
  have hl : ln (X0 + X1) ≤ 35184372087809 := ln_sum hS0.1 hS1.1 (by omega) (by omega)
  have hla : ln (am Za) ≤ 70368744177664 := by
    have h1 : am Za ≤ X0 + X1 := by rw [← hza]; unfold am sg; cases s0 <;> cases s1 <;> simp <;> omega
    have := ln_mono h1; omega
  have hls : ln (am Zs) ≤ 70368744177664 := by
    have h1 : am Zs ≤ X0 + X1 := by rw [← hzs]; unfold am sg; cases s0 <;> cases s1 <;> simp <;> omega
    have := ln_mono h1; omega
  have hlm : ln (am Zm) ≤ 70368744177664 := by
    rw [← hzm, sg_mul, am_sg]; have := ln_prod hS0.1 hS1.1; omega
  obtain ⟨C, hC⟩ : ∃ C, sgn Zs = C := ⟨_, rfl⟩
  have hcc : (C == C) = true := by simp
  have K1 : ∀ w', Seg w' a0 X0 len0 → Seg w' a1 X1 len1 → Calls Try.prog 29 #[.agg #[.bool s0, .slice a0 len0 cap0], .agg #[.bool s1, .slice a1 len1 cap1]] w' fun e w'' => e = .returned (.int .i64 C) ∧ Below w'.heap.size w' w'' :=
    fun w' h1 h2 => by rw [← hC, ← hzs]; exact wCmp_is s0 a0 len0 cap0 X0 s1 a1 len1 cap1 X1 w' hc0 (by omega) h1 hc1 (by omega) h2
  have K2 : ∀ w', Seg w' a0 X0 len0 → Seg w' a1 X1 len1 → Calls Try.prog 30 #[.agg #[.bool s0, .slice a0 len0 cap0], .agg #[.bool s1, .slice a1 len1 cap1]] w' fun e w'' => e = .returned (.int .i64 C) ∧ Below w'.heap.size w' w'' :=
    fun w' h1 h2 => by rw [← hC, ← hzs]; exact vCmp_is s0 a0 len0 cap0 X0 s1 a1 len1 cap1 X1 w' (by omega) h1 (by omega) h2
  have HK1 := hide' K1
  have HK2 := hide' K2
  have Ha := hide' hza
  have Hs := hide' hzs
  have Hm := hide' hzm
  clear K1 K2 hza hzs hzm hC
  go_enter Try.func4, Try.ntmps4
  go_wp2_with fail
  have q00 : (((w.alloc (.cells #[.bool s0, .slice a0 len0 cap0] 25)).alloc (.cells #[.bool s1, .slice a1 len1 cap1] 25))).cell? ⟨w.heap.size, 0, none⟩ = some (.bool s0) := by go_simp
  have q01 : (((w.alloc (.cells #[.bool s0, .slice a0 len0 cap0] 25)).alloc (.cells #[.bool s1, .slice a1 len1 cap1] 25))).cell? ⟨w.heap.size, 1, none⟩ = some (.slice a0 len0 cap0) := by go_simp
  have q10 : (((w.alloc (.cells #[.bool s0, .slice a0 len0 cap0] 25)).alloc (.cells #[.bool s1, .slice a1 len1 cap1] 25))).cell? ⟨w.heap.size + 1, 0, none⟩ = some (.bool s1) := by go_simp
  have q11 : (((w.alloc (.cells #[.bool s0, .slice a0 len0 cap0] 25)).alloc (.cells #[.bool s1, .slice a1 len1 cap1] 25))).cell? ⟨w.heap.size + 1, 1, none⟩ = some (.slice a1 len1 cap1) := by go_simp
  have hB : Below w.heap.size w (((w.alloc (.cells #[.bool s0, .slice a0 len0 cap0] 25)).alloc (.cells #[.bool s1, .slice a1 len1 cap1] 25))) := (((Below.refl _ _).alloc (by (try simp only [World.size_alloc]); omega) _).alloc (by (try simp only [World.size_alloc]); omega) _)
  have hz : (((w.alloc (.cells #[.bool s0, .slice a0 len0 cap0] 25)).alloc (.cells #[.bool s1, .slice a1 len1 cap1] 25))).heap.size = w.heap.size + 1 + 1 := by simp only [World.size_alloc]
  generalize ((w.alloc (.cells #[.bool s0, .slice a0 len0 cap0] 25)).alloc (.cells #[.bool s1, .slice a1 len1 cap1] 25)) = W at q00 q01 q10 q11 hB hz ⊢
  have hBW : Below W.heap.size W W := Below.refl _ _
  replace hBW := hBW.drew
  go_region_held3 (fun w' => w'.cell? ⟨w.heap.size, 0, none⟩ = some (.bool s0) ∧ w'.cell? ⟨w.heap.size, 1, none⟩ = some (.slice a0 len0 cap0) ∧ w'.cell? ⟨w.heap.size + 1, 0, none⟩ = some (.bool s1) ∧ w'.cell? ⟨w.heap.size + 1, 1, none⟩ = some (.slice a1 len1 cap1) ∧ Below w.heap.size w w')
    (first | exact ⟨q00, q01, q10, q11, hB.trans (hBW.mono hB.size)⟩ | exact kp4 b1 (by assumption) | exact kp4 b2 (by assumption) | exact kp4 b3 (by assumption) | exact kp4 b4 (by assumption) | exact kp4 b5 (by assumption) | exact kp4 b6 (by assumption) | exact kp4 b7 (by assumption) | exact kp4 b8 (by assumption) | exact kp4 (below_alloc _) (by assumption) | exact kpS4 (kpS4 (by assumption) (by omega) (by omega)  (by omega)) (by omega) (by omega)  (by omega))
    (first
      | (go_at_call 23; refine (wAdd_is s0 a0 len0 cap0 X0 s1 a1 len1 cap1 X1 Za _ hc0 (by omega) (sb hS0 hB hBW) hc1 (by omega) (sb hS1 hB hBW) Ha.out).mono ?_; rintro e w3 ⟨a3, rfl, h1⟩; have b3 := h1.below; replace h1 := h1.back hBW; replace hBW := hBW.trans (b3.mono hBW.size); replace q00 := below_cell b3 q00; replace q01 := below_cell b3 q01; replace q10 := below_cell b3 q10; replace q11 := below_cell b3 q11)
      | (go_at_call 24; refine (vAdd_is s0 a0 len0 cap0 X0 s1 a1 len1 cap1 X1 Za _ (by omega) (sb hS0 hB hBW) (by omega) (sb hS1 hB hBW) Ha.out).mono ?_; rintro e w4 ⟨a4, rfl, h2⟩; have b4 := h2.below; replace h2 := h2.back hBW; replace hBW := hBW.trans (b4.mono hBW.size); replace q00 := below_cell b4 q00; replace q01 := below_cell b4 q01; replace q10 := below_cell b4 q10; replace q11 := below_cell b4 q11; replace h1 := h1.later b4)
      | (go_at_call_of 11 (Value.agg #[Value.bool (ng (Za)), Value.slice a3 (ln (am (Za))) (ln (am (Za)))]); refine (sameI_is (Za) a3 a4 _ _ _ (by omega) h1.seg h2.seg).mono ?_; rintro e w5 ⟨rfl, b5⟩; replace hBW := hBW.trans (b5.mono hBW.size); replace q00 := below_cell b5 q00; replace q01 := below_cell b5 q01; replace q10 := below_cell b5 q10; replace q11 := below_cell b5 q11; replace h1 := h1.later b5; replace h2 := h2.later b5)
      | (go_at_call 25; refine (wSub_is s0 a0 len0 cap0 X0 s1 a1 len1 cap1 X1 Zs _ hc0 (by omega) (sb hS0 hB hBW) hc1 (by omega) (sb hS1 hB hBW) Hs.out).mono ?_; rintro e w6 ⟨a6, rfl, h3⟩; have b6 := h3.below; replace h3 := h3.back hBW; replace hBW := hBW.trans (b6.mono hBW.size); replace q00 := below_cell b6 q00; replace q01 := below_cell b6 q01; replace q10 := below_cell b6 q10; replace q11 := below_cell b6 q11; replace h1 := h1.later b6; replace h2 := h2.later b6)
      | (go_at_call 26; refine (vSub_is s0 a0 len0 cap0 X0 s1 a1 len1 cap1 X1 Zs _ (by omega) (sb hS0 hB hBW) (by omega) (sb hS1 hB hBW) Hs.out).mono ?_; rintro e w7 ⟨a7, rfl, h4⟩; have b7 := h4.below; replace h4 := h4.back hBW; replace hBW := hBW.trans (b7.mono hBW.size); replace q00 := below_cell b7 q00; replace q01 := below_cell b7 q01; replace q10 := below_cell b7 q10; replace q11 := below_cell b7 q11; replace h1 := h1.later b7; replace h2 := h2.later b7; replace h3 := h3.later b7)
      | (go_at_call_of 11 (Value.agg #[Value.bool (ng (Zs)), Value.slice a6 (ln (am (Zs))) (ln (am (Zs)))]); refine (sameI_is (Zs) a6 a7 _ _ _ (by omega) h3.seg h4.seg).mono ?_; rintro e w8 ⟨rfl, b8⟩; replace hBW := hBW.trans (b8.mono hBW.size); replace q00 := below_cell b8 q00; replace q01 := below_cell b8 q01; replace q10 := below_cell b8 q10; replace q11 := below_cell b8 q11; replace h1 := h1.later b8; replace h2 := h2.later b8; replace h3 := h3.later b8; replace h4 := h4.later b8))
  clear h1 h2 h3 h4
  go_wp2_with fail
  replace hBW := hBW.drew
  go_region_held3 (fun w' => w'.cell? ⟨w.heap.size, 0, none⟩ = some (.bool s0) ∧ w'.cell? ⟨w.heap.size, 1, none⟩ = some (.slice a0 len0 cap0) ∧ w'.cell? ⟨w.heap.size + 1, 0, none⟩ = some (.bool s1) ∧ w'.cell? ⟨w.heap.size + 1, 1, none⟩ = some (.slice a1 len1 cap1) ∧ Below w.heap.size w w')
    (first | exact ⟨q00, q01, q10, q11, hB.trans (hBW.mono hB.size)⟩ | exact kp4 b1 (by assumption) | exact kp4 b2 (by assumption) | exact kp4 b3 (by assumption) | exact kp4 b4 (by assumption) | exact kp4 b5 (by assumption) | exact kp4 b6 (by assumption) | exact kp4 b7 (by assumption) | exact kp4 b8 (by assumption) | exact kp4 b9 (by assumption) | exact kp4 b10 (by assumption) | exact kp4 b11 (by assumption) | exact kp4 b12 (by assumption) | exact kp4 b13 (by assumption) | exact kp4 (below_alloc _) (by assumption) | exact kpS4 (kpS4 (by assumption) (by omega) (by omega)  (by omega)) (by omega) (by omega)  (by omega))
    (first
      | (go_at_call 27; refine (wMul_is s0 a0 len0 cap0 X0 s1 a1 len1 cap1 X1 Zm _ hc0 (by omega) (sb hS0 hB hBW) hc1 (by omega) (sb hS1 hB hBW) Hm.out).mono ?_; rintro e w9 ⟨a9, rfl, h1⟩; have b9 := h1.below; replace h1 := h1.back hBW; replace hBW := hBW.trans (b9.mono hBW.size); replace q00 := below_cell b9 q00; replace q01 := below_cell b9 q01; replace q10 := below_cell b9 q10; replace q11 := below_cell b9 q11)
      | (go_at_call 28; refine (vMul_is s0 a0 len0 cap0 X0 s1 a1 len1 cap1 X1 Zm _ (by omega) (sb hS0 hB hBW) (sb hS1 hB hBW) Hm.out).mono ?_; rintro e w10 ⟨a10, rfl, h2⟩; have b10 := h2.below; replace h2 := h2.back hBW; replace hBW := hBW.trans (b10.mono hBW.size); replace q00 := below_cell b10 q00; replace q01 := below_cell b10 q01; replace q10 := below_cell b10 q10; replace q11 := below_cell b10 q11; replace h1 := h1.later b10)
      | (go_at_call_of 11 (Value.agg #[Value.bool (ng (Zm)), Value.slice a9 (ln (am (Zm))) (ln (am (Zm)))]); refine (sameI_is (Zm) a9 a10 _ _ _ (by omega) h1.seg h2.seg).mono ?_; rintro e w11 ⟨rfl, b11⟩; replace hBW := hBW.trans (b11.mono hBW.size); replace q00 := below_cell b11 q00; replace q01 := below_cell b11 q01; replace q10 := below_cell b11 q10; replace q11 := below_cell b11 q11; replace h1 := h1.later b11; replace h2 := h2.later b11)
      | (go_at_call 29; refine (HK1.out _ (sb hS0 hB hBW) (sb hS1 hB hBW)).mono ?_; rintro e w12 ⟨rfl, b12⟩; replace hBW := hBW.trans (b12.mono hBW.size); replace q00 := below_cell b12 q00; replace q01 := below_cell b12 q01; replace q10 := below_cell b12 q10; replace q11 := below_cell b12 q11; replace h1 := h1.later b12; replace h2 := h2.later b12)
      | (go_at_call 30; refine (HK2.out _ (sb hS0 hB hBW) (sb hS1 hB hBW)).mono ?_; rintro e w13 ⟨rfl, b13⟩; replace hBW := hBW.trans (b13.mono hBW.size); replace q00 := below_cell b13 q00; replace q01 := below_cell b13 q01; replace q10 := below_cell b13 q10; replace q11 := below_cell b13 q11; replace h1 := h1.later b13; replace h2 := h2.later b13))
  go_wp2
  go_ret
  exact ⟨rfl, hB.trans (hBW.mono hB.size)⟩

set_option maxRecDepth 100000 in
theorem contract (H : Type) (enc : TypeId × Value → H) (W : World) (base : Nat) (args : Array Value) (ds gs : List (DataW H)) (before : List MemPlace)
    (hval : ∀ (j : Nat) t v, Try.f4.params[j]? = some t → args[j]? = some v → Value.okWide Try.prog W .any base t v)
    (hW : DataW.Whole enc Try.prog Try.f4.params.toList Rows.wholeReckonsSpec.vars false W args.toList ds gs before)
    (hsz : (DataW.weightsEach Try.prog (Try.f4.params.toList ++ Rows.wholeReckonsSpec.plain.varTypes Try.prog) (ds ++ gs)).all (· ≤ reachBytes) = true) :
    Calls Try.prog 4 args W fun e W' => ∃ v, e = .returned v ∧ Rows.wholeReckonsSpec.post enc Try.prog Try.f4 false true false false W args v W' := by
  have hW' := hW
  obtain ⟨p, q, hA0, hV, rfl, hfz, hnd⟩ := hW
  have hA : DataW.TrodAll enc Try.prog W 0 (fun _ => true) true Try.f4.params.toList args.toList ds p := hA0
  rw [Try.params4] at hA hval hsz
  obtain ⟨v0, vs0, d0, ds0, p0, q0, hargs, rfl, rfl, h0, r0⟩ := trodAll_cons hA
  obtain ⟨v1, vs1, d1, ds1, p1, q1, rfl, rfl, rfl, h1, r1⟩ := trodAll_cons r0
  obtain ⟨rfl, rfl, rfl⟩ := trodAll_nil r1
  obtain rfl : args = #[v0, v1] := by cases args; simp_all
  obtain ⟨rfl, rfl⟩ := trodVars_none hV
  have lt0 : ∀ x ∈ p0, x.block < W.heap.size := by obtain ⟨m, hm⟩ := h0; exact DataW.trod_lt m _ _ _ hm
  obtain ⟨s0, a0, len0, cap0, X0, rfl, hS0, hc0, hb0, hu0⟩ := open_Int (hval 0 25 v0 rfl rfl) h0 (sized_at 0 hsz rfl rfl)
  have lt1 : ∀ x ∈ p1, x.block < W.heap.size := by obtain ⟨m, hm⟩ := h1; exact DataW.trod_lt m _ _ _ hm
  obtain ⟨s1, a1, len1, cap1, X1, rfl, hS1, hc1, hb1, hu1⟩ := open_Int (hval 1 25 v1 rfl rfl) h1 (sized_at 1 hsz rfl rfl)
  clear hA0
  simp only [List.append_nil] at hW'
  refine (walk s0 a0 len0 cap0 X0 s1 a1 len1 cap1 X1 W hS0 hc0 hb0 hS1 hc1 hb1).mono fun e W' ⟨he, bel⟩ => ?_
  subst he
  exact ⟨_, rfl, _, _, _, [], _, [], hW', trodAll_mk1 (shut_bool Try.underlying4 _), (trodAll_cons_mk (Below.trod laidOut (by kernel_rfl) (of_decide_eq_true (by kernel_rfl)) h0 bel lt0) (trodAll_cons_mk (Below.trod laidOut (by kernel_rfl) (of_decide_eq_true (by kernel_rfl)) h1 bel lt1) trodAll_mk0)), rfl, bel.frame _, fun h => by cases h⟩

set_option maxRecDepth 100000 in
theorem lifted (os : Os) (started : os.Started) (H : Type) (enc : TypeId × Value → H) :
    ReturnsInHanded {} Try.checked os 4 .any (Rows.wholeReckonsSpec.pre6 enc Try.prog Try.f4 Rows.wholeReckonsRow.domain false) (Rows.wholeReckonsSpec.post enc Try.prog Try.f4 false true false false) := by
  refine returnsInHanded_of_change_sized (C := Try.checked) own started (by kernel_rfl) Try.func4
    (ChangeSpec.witness6 (enc := enc) (C := Try.checked) false ⟨#[], #[.agg #[.bool false, .slice none 0 0], .agg #[.bool false, .slice none 0 0]], []⟩ 8 (by kernel_rfl) (by kernel_rfl) (by kernel_rfl) (by kernel_rfl)) ?_
  intro W base args ds gs before hval hW _ hsz _
  exact contract H enc W base args ds gs before hval hW hsz

theorem over : Rows.wholeReckonsRow.holds Try.pinned (OpenSpec.ofChange Rows.wholeReckonsSpec) :=
  OpenClaim.holds_of_wide 4 Try.f4 rfl rfl rfl rfl rfl rfl rfl ⟨rfl, rfl, rfl, rfl, rfl⟩ rfl rfl rfl rfl rfl (by kernel_rfl) Try.func4 (by kernel_rfl)
    (of_decide_eq_true (by kernel_rfl)) (by unfold Func.isWrapper; first | (rw [if_pos (by decide +kernel)]; kernel_rfl) | (rw [if_neg (by decide +kernel)]; exact ⟨rfl, rfl⟩))
    (fun os started H enc _ => lifted os started H enc)

end Go.Proofs.Ytpejkdabhijcoaa.wholeReckons
namespace Go.Proofs.Ytpejkdabhijcoaa
theorem wholeReckons_holds : Rows.WholeReckonsSaid := wholeReckons.over
#print axioms wholeReckons_holds
end Go.Proofs.Ytpejkdabhijcoaa
