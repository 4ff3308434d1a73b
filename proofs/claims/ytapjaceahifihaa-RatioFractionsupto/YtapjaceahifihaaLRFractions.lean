/-
  RatioFractions.
-/
import Derived.Test.YtapjaceahifihaaWJ6
import Derived.Test.YtapjaceahifihaaWQA
import Derived.Test.YtapjaceahifihaaOpenQ
namespace Go.Proofs.Ytapjaceahifihaa
open Go.RowKit
theorem cf_le : ∀ (d : Nat) (n : Int), d ≠ 0 → ∀ x ∈ cf n d, am x ≤ max (am n) d + 1 := by
  intro d
  induction d using Nat.strongRecOn with
  | _ d ih =>
    intro n hd x hx
    have hq : am (n / (d : Int)) ≤ am n + 1 := by
      have f1 : Fl n d (n / (d : Int)) (n % (d : Int)) := ⟨by rw [Int.mul_comm]; exact Int.mul_ediv_add_emod _ _, Int.emod_nonneg _ (by omega), Int.emod_lt_of_pos _ (by omega)⟩
      exact Fl.am f1 (by omega)
    by_cases h0 : n % (d : Int) = 0
    · rw [cf_end hd h0] at hx
      obtain rfl := List.mem_singleton.1 hx
      omega
    · rw [cf_on hd h0] at hx
      rcases List.mem_cons.1 hx with h | h
      · subst h; omega
      · obtain ⟨m1, m2⟩ := mod_nat (n := n) hd
        have := ih _ m2 (d : Int) (by omega) x h
        have e : am (d : Int) = d := by simp [am]
        omega
theorem cf_len_le {s : Bool} {X Y m : Nat} (hY : Y < BB ^ m) : (cf (rn s X Y) (rd Y)).length ≤ 64 * (m + 1) + 1 := by
  have h1 : rd Y < 2 ^ (32 * (m + 1)) := by
    have h3 := rd_lt hY
    rw [BB_eq, show (4294967296 : Nat) = 2 ^ 32 by rfl, ← Nat.pow_mul] at h3
    exact h3
  have := cf_length _ (rn s X Y) _ h1
  omega
theorem cf_elem_ln {s : Bool} {X Y n m E : Nat} (hX : X < BB ^ n) (hY : Y < BB ^ m) (hn : n ≤ E) (hm : m + 1 ≤ E) : ∀ i, ln (am ((cf (rn s X Y) (rd Y)).getD i 0)) ≤ E + 1 := fun i => by
  have hDn : rd Y ≠ 0 := by have := rd_pos Y; omega
  by_cases hi : i < (cf (rn s X Y) (rd Y)).length
  · have h1 := cf_le _ (rn s X Y) hDn _ (List.getElem_mem hi)
    rw [show (cf (rn s X Y) (rd Y)).getD i 0 = (cf (rn s X Y) (rd Y))[i] by simp [List.getD, hi]]
    refine Nat.le_trans (ln_mono h1) ?_
    have h2 := rn_am s X Y
    have h3 := Nat.lt_of_lt_of_le (rd_lt hY) (pow_mono hm)
    have h4 := Nat.lt_of_lt_of_le hX (pow_mono hn)
    refine ln_le_of_lt ?_
    have h5 : BB ^ E * 1 < BB ^ E * BB := Nat.mul_lt_mul_of_pos_left (by rw [BB_eq]; omega) (BBp _)
    rw [Nat.pow_succ]
    omega
  · rw [show (cf (rn s X Y) (rd Y)).getD i 0 = 0 by simp [List.getD, Nat.le_of_not_lt hi]]
    show ln 0 ≤ _
    rw [ln_zero]
    omega
theorem cf_ne (n : Int) {d : Nat} (hd : d ≠ 0) : cf n d ≠ [] := by
  by_cases h0 : n % (d : Int) = 0
  · rw [cf_end hd h0]; simp
  · rw [cf_on hd h0]; simp
theorem IL.open {base : Nat} {W : World} {v : Value} {l : List Int} (h : IL base W v l) (hl : l ≠ []) : ∃ (g cap : Nat) (a : Nat → Option Addr), v = .slice (some ⟨g, 0, none⟩) l.length cap ∧ g < W.heap.size ∧
    ∀ i, i < l.length → W.cell? ⟨g, i * 2, none⟩ = some (.bool (ng (l.getD i 0))) ∧ W.cell? ⟨g, i * 2 + 1, none⟩ = some (.slice (a i) (ln (am (l.getD i 0))) (ln (am (l.getD i 0)))) ∧ Seg W (a i) (am (l.getD i 0)) (ln (am (l.getD i 0))) := by
  obtain ⟨s, rfl, hr, hs⟩ := h.ex
  have hn : 0 < s.length := by
    cases s with
    | nil => simp at hl
    | cons x s => simp
  obtain ⟨g, cap, rfl, _, hg⟩ := hr.form hn
  refine ⟨g, cap, fun i => (s.getD i (0, none)).2, by rw [List.length_map], hg, fun i hi => ?_⟩
  rw [List.length_map] at hi
  obtain ⟨c0, c1⟩ := cellsI_at s i hi
  have k0 := hr.cellAt (i * 2) (by omega)
  have k1 := hr.cellAt (i * 2 + 1) (by omega)
  rw [c0] at k0
  rw [c1] at k1
  have e1 : (s.map Prod.fst).getD i 0 = s[i].1 := by simp [List.getD, hi]
  have e2 : (s.getD i (0, none)).2 = s[i].2 := by simp [List.getD, hi]
  show _ ∧ W.cell? _ = some (.slice (s.getD i (0, none)).2 _ _) ∧ Seg W (s.getD i (0, none)).2 _ _
  rw [e1, e2]
  exact ⟨k0, k1, hs _ (List.getElem_mem hi)⟩
end Go.Proofs.Ytapjaceahifihaa
namespace Go.Proofs.Ytapjaceahifihaa.ratioFractions
open Go.ChangeShapes Go.WideShapes Go.ChangeAt Go.RowKit Go.Proofs.Ytapjaceahifihaa
set_option linter.unusedVariables false

set_option maxHeartbeats 8000000 in
set_option maxRecDepth 100000 in
theorem walk (s0 : Bool) (a0 : Option Addr) (n0 c0 X0 : Nat) (b0 : Option Addr) (m0 d0 Y0 : Nat) (w : World) (hc0 : n0 ≤ c0) (hm0 : n0 ≤ 1048576) (hS0 : Seg w a0 X0 n0) (hd0 : m0 ≤ d0) (hk0 : m0 ≤ 1048576) (hT0 : Seg w b0 Y0 m0) :
    Calls Try.prog 3 #[Value.agg #[Value.bool s0, Value.slice a0 n0 c0, Value.slice b0 m0 d0]] w fun e w' => e = .returned (.bool true) ∧ Below w.heap.size w w' := by
  have hDn : rd Y0 ≠ 0 := by have := rd_pos Y0; omega
  have hlen : (cf (rn s0 X0 Y0) (rd Y0)).length ≤ 67108929 := Nat.le_trans (cf_len_le hT0.1) (by omega)
  have hmax := cf_elem_ln (s := s0) (E := 1048577) hS0.1 hT0.1 (by omega) (by omega)
  have hcn := cf_ne (rn s0 X0 Y0) hDn
  obtain ⟨l, hl⟩ : ∃ l, cf (rn s0 X0 Y0) (rd Y0) = l := ⟨_, rfl⟩
  have bA := below_alloc (w := w) (.cells #[.bool s0, .slice a0 n0 c0, .slice b0 m0 d0] 27)
  have GT := hide' (ltwin_is s0 a0 n0 c0 X0 b0 m0 d0 Y0 (w.alloc (.cells #[.bool s0, .slice a0 n0 c0, .slice b0 m0 d0] 27)) hc0 (by omega) (hS0.later bA) hd0 (by omega) (hT0.later bA))
  have GE' := fun w' p q k1 k2 => qExpand_is 67108929 s0 p n0 n0 X0 q m0 m0 Y0 w' (Nat.le_refl _) (by omega) k1 (Nat.le_refl _) (by omega) k2 hlen (by omega)
  have GR' := fun w' k1 k2 => vExpand_is 67108929 s0 a0 n0 c0 X0 b0 m0 d0 Y0 w' hc0 (by omega) k1 hd0 (by omega) k2 hlen (by omega)
  rw [hl] at GE' GR' hmax hcn hlen
  have GE := hide' GE'
  have GR := hide' GR'
  have HM := hide' hmax
  clear GE' GR' hl hmax
  go_enter Try.func3, Try.ntmps3
  go_wp2_with (first | (go_at_call 6; refine GT.out.mono ?_; rintro e w1 ⟨p, q, rfl, n1, n2⟩) | (go_at_call 5; refine (GE.out _ p q n1.seg n2.seg).mono ?_; rintro e w2 ⟨v1, rfl, I1, b2⟩; obtain ⟨g1, cap1, a1, hv1, hg1, C1⟩ := I1.open hcn; subst hv1; have HC1 := hide' C1; clear C1; have bB := bA.trans ((n1.below.trans (b2.mono n1.below.size)).mono bA.size); obtain ⟨x0, x1, x2⟩ : w2.cell? ⟨w.heap.size, 0, none⟩ = some (.bool s0) ∧ w2.cell? ⟨w.heap.size, 1, none⟩ = some (.slice a0 n0 c0) ∧ w2.cell? ⟨w.heap.size, 2, none⟩ = some (.slice b0 m0 d0) := (by refine ⟨?_, ?_, ?_⟩ <;> (refine below_cell b2 (below_cell n1.below ?_); go_simp))) | (go_at_call 7; refine (GR.out _ (hS0.later bB) (hT0.later bB)).mono ?_; rintro e w3 ⟨v2, rfl, I2, b3⟩; obtain ⟨g2, cap2, a2, hv2, hg2, C2⟩ := I2.open hcn; subst hv2; have HC2 := hide' C2; clear C2))
  have bC := bB.trans (b3.mono bB.size)
  clear I1 I2 GT GE GR n1 n2 b2 bB x0 x1 x2 hS0 hT0 hcn
  go_loopw [5] (fun vi wr => ∃ k : Nat, k ≤ l.length ∧ vi = .int .i64 k ∧ Below w3.heap.size w3 wr) (fun vi _ => l.length - (intOf vi).toNat)
  case atStart => exact ⟨0, Nat.zero_le _, rfl, Below.refl _ _⟩
  case round =>
    obtain ⟨k, hk, rfl, hB⟩ := hrel
    by_cases hlt : k < l.length
    · obtain ⟨y0, y1, ys⟩ := HC1.out k hlt
      obtain ⟨z0, z1, zs⟩ := HC2.out k hlt
      have hmk := HM.out k
      obtain ⟨Z, hZ⟩ : ∃ Z, l.getD k 0 = Z := ⟨_, rfl⟩
      rw [hZ] at y0 y1 ys z0 z1 zs hmk
      clear hZ
      replace y0 := below_cell hB (below_cell b3 y0)
      replace y1 := below_cell hB (below_cell b3 y1)
      replace ys := (ys.later b3).later hB
      replace z0 := below_cell hB z0
      replace z1 := below_cell hB z1
      replace zs := zs.later hB
      go_wp2_with fail
      have bD : Below wr.heap.size wr wr.drew := (Below.refl _ _).drew
      have ky0 := below_cell bD y0
      have ky1 := below_cell bD y1
      have kz0 := below_cell bD z0
      have kz1 := below_cell bD z1
      replace hB := hB.trans (bD.mono hB.size)
      replace ys := ys.later bD
      replace zs := zs.later bD
      refine wp_region_held_drew (S := fun w' => w'.cell? ⟨g1, k * 2, none⟩ = some (.bool (ng Z)) ∧ w'.cell? ⟨g1, k * 2 + 1, none⟩ = some (.slice (a1 k) (ln (am Z)) (ln (am Z))) ∧ w'.cell? ⟨g2, k * 2, none⟩ = some (.bool (ng Z)) ∧ w'.cell? ⟨g2, k * 2 + 1, none⟩ = some (.slice (a2 k) (ln (am Z)) (ln (am Z)))) (by kernel_rfl) ⟨ky0, ky1, kz0, kz1⟩ (fun hHeld => ?_)
      clear ky0 ky1 kz0 kz1
      generalize wr.drew = w4 at bD ys zs hB hHeld ⊢
      clear bD y0 y1 z0 z1
      refine take' 0 (v := ?_) rfl (by kernel_rfl) (by kernel_rfl) (by kernel_rfl) (fun _ _ _ h => h) (Or.inl ⟨by rfl, ?_⟩) (by assumption) ?_
      rotate_left
      · intro w9 hSw
        go_simp
        first | done | with_reducible rfl
      simp only [Act.put, List.setIfInBounds_toArray, List.set_cons_zero, List.set_cons_succ]
      refine take' 1 (v := ?_) rfl (by kernel_rfl) (by kernel_rfl) (by kernel_rfl) (fun _ _ _ h => h) (Or.inl ⟨by rfl, ?_⟩) (by assumption) ?_
      rotate_left
      · intro w9 hSw
        go_simp
        first | done | with_reducible rfl
      simp only [Act.put, List.setIfInBounds_toArray, List.set_cons_zero, List.set_cons_succ]
      refine take' 2 (v := ?_) rfl (by kernel_rfl) (by kernel_rfl) (by kernel_rfl) (fun _ _ _ h => h) (Or.inl ⟨by rfl, ?_⟩) (by assumption) ?_
      rotate_left
      · intro w9 hSw
        go_simp
        first | done | with_reducible rfl
      simp only [Act.put, List.setIfInBounds_toArray, List.set_cons_zero, List.set_cons_succ]
      refine take' 3 (v := ?_) rfl (by kernel_rfl) (by kernel_rfl) (by kernel_rfl) (fun _ _ _ h => h) (Or.inl ⟨by rfl, ?_⟩) (by assumption) ?_
      rotate_left
      · intro w9 hSw
        go_simp
        first | done | with_reducible rfl
      simp only [Act.put, List.setIfInBounds_toArray, List.set_cons_zero, List.set_cons_succ]
      refine take' 4 (v := ?_) rfl (by kernel_rfl) (by kernel_rfl) (by kernel_rfl) (fun _ _ _ h => h) (Or.inl ⟨by rfl, ?_⟩) (by assumption) ?_
      rotate_left
      · intro w9 hSw
        go_simp
        first | done | with_reducible rfl
      simp only [Act.put, List.setIfInBounds_toArray, List.set_cons_zero, List.set_cons_succ]
      refine take' 5 (v := ?_) rfl (by kernel_rfl) (by kernel_rfl) (by kernel_rfl) (fun _ _ _ h => h) (Or.inl ⟨by rfl, ?_⟩) (by assumption) ?_
      rotate_left
      · intro w9 hSw
        go_simp
        first | done | with_reducible rfl
      simp only [Act.put, List.setIfInBounds_toArray, List.set_cons_zero, List.set_cons_succ]
      refine take' 6 (v := ?_) rfl (by kernel_rfl) (by kernel_rfl) (by kernel_rfl) (fun _ _ _ h => h) (Or.inl ⟨by rfl, ?_⟩) (by assumption) ?_
      rotate_left
      · intro w9 hSw
        go_simp
        first | done | with_reducible rfl
      simp only [Act.put, List.setIfInBounds_toArray, List.set_cons_zero, List.set_cons_succ]
      refine take' 7 (v := ?_) rfl (by kernel_rfl) (by kernel_rfl) (by kernel_rfl) (fun _ _ _ h => h) (Or.inl ⟨by rfl, ?_⟩) (by assumption) ?_
      rotate_left
      · intro w9 hSw
        go_simp
        first | done | with_reducible rfl
      simp only [Act.put, List.setIfInBounds_toArray, List.set_cons_zero, List.set_cons_succ]
      refine wpAnyH_ready (rs := [8]) (by kernel_rfl) (by simp) ?_
      refine cons' rfl (fun KK hKK => ?_)
      go_simp
      refine (sameInt_is Z (a1 k) (a2 k) w4 (by omega) ys zs).mono ?_
      rintro e w5 ⟨rfl, b5⟩
      have bC := b5
      replace hB := hB.trans (bC.mono hB.size)
      replace ys := ys.later bC
      replace zs := zs.later bC
      replace hHeld := (⟨below_cell bC hHeld.1, below_cell bC hHeld.2.1, below_cell bC hHeld.2.2.1, below_cell bC hHeld.2.2.2⟩ : _ ∧ _ ∧ _ ∧ _)
      clear bC
      go_wp2_with fail
      clear b5
      refine hKK.out _ _ hHeld ?_
      clear hHeld
      intro hHeld
      clear hKK KK
      try simp only [Act.put, List.setIfInBounds_toArray, List.set_cons_zero, List.set_cons_succ]
      refine take' 9 (v := ?_) rfl (by kernel_rfl) (by kernel_rfl) (by kernel_rfl) (fun _ _ _ h => h) (Or.inl ⟨by rfl, ?_⟩) (by assumption) ?_
      rotate_left
      · intro w9 hSw
        go_simp
        first | done | with_reducible rfl
      simp only [Act.put, List.setIfInBounds_toArray, List.set_cons_zero, List.set_cons_succ]
      refine wpAnyH_done (by kernel_rfl) ?_ _
      go_wp2_with fail
      go_roundw
      case rel => exact ⟨k + 1, by omega, by simp, hB⟩
      case measure => simp [intOf]; omega
    · obtain rfl : k = l.length := by omega
      clear HC1 HC2 HM
      go_wp2
      go_ret
      exact ⟨rfl, bC.trans (hB.mono bC.size)⟩

set_option maxRecDepth 100000 in
theorem contract (H : Type) (enc : TypeId × Value → H) (W : World) (base : Nat) (args : Array Value) (ds gs : List (DataW H)) (before : List MemPlace)
    (hval : ∀ (j : Nat) t v, Try.f3.params[j]? = some t → args[j]? = some v → Value.okWide Try.prog W .any base t v)
    (hW : DataW.Whole enc Try.prog Try.f3.params.toList Rows.ratioFractionsSpec.vars false W args.toList ds gs before)
    (hsz : (DataW.weightsEach Try.prog (Try.f3.params.toList ++ Rows.ratioFractionsSpec.plain.varTypes Try.prog) (ds ++ gs)).all (· ≤ reachBytes) = true) (hk : Rows.uptoSmall H (ds ++ gs) = true) :
    Calls Try.prog 3 args W fun e W' => ∃ v, e = .returned v ∧ Rows.ratioFractionsSpec.post enc Try.prog Try.f3 false true false false W args v W' := by
  have hW' := hW
  obtain ⟨p, q, hA0, hV, rfl, hfz, hnd⟩ := hW
  have hA : DataW.TrodAll enc Try.prog W 0 (fun _ => true) true Try.f3.params.toList args.toList ds p := hA0
  rw [Try.params3] at hA hval hsz
  obtain ⟨v0, vs0, d0, ds0, p0, q0, hargs, rfl, rfl, h0, r0⟩ := trodAll_cons hA
  obtain ⟨rfl, rfl, rfl⟩ := trodAll_nil r0
  obtain rfl : args = #[v0] := by cases args; simp_all
  obtain ⟨rfl, rfl⟩ := trodVars_none hV
  have lt0 : ∀ x ∈ p0, x.block < W.heap.size := by obtain ⟨m, hm⟩ := h0; exact DataW.trod_lt m _ _ _ hm
  obtain ⟨rs0, ra0, rn0, rc0, rX0, rb0, rm0, re0, rY0, rfl, hS0, hc0, hb0, hT0, hd0, hk0, hu0, hv0⟩ := open_Rat (hval 0 27 v0 rfl rfl) h0 (sized_at 0 hsz rfl rfl)
  clear hA0
  have hbulk := of_decide_eq_true hk
  simp only [List.append_nil, Rows.uptoBulkAll] at hbulk
  replace hb0 : rn0 ≤ 1048576 := by omega
  replace hk0 : rm0 ≤ 1048576 := by omega
  simp only [List.append_nil] at hW'
  refine (walk rs0 ra0 rn0 rc0 rX0 rb0 rm0 re0 rY0 W hc0 hb0 hS0 hd0 hk0 hT0).mono fun e W' ⟨he, bel⟩ => ?_
  subst he
  exact ⟨_, rfl, _, _, _, [], _, [], hW', trodAll_mk1 (shut_bool Try.underlying4 _), (trodAll_cons_mk (Below.trod laidOut (by kernel_rfl) (of_decide_eq_true (by kernel_rfl)) h0 bel lt0) trodAll_mk0), rfl, bel.frame _, fun h => by cases h⟩

set_option maxRecDepth 100000 in
theorem lifted (os : Os) (started : os.Started) (H : Type) (enc : TypeId × Value → H) (F : Stop.Interp) :
    ReturnsInHanded {} Try.checked os 3 .any ((Rows.OpenSpec.upto Rows.ratioFractionsSpec).pre6 enc Try.prog Try.f3 Rows.ratioFractionsUptoRow.domain false) (((Rows.OpenSpec.upto Rows.ratioFractionsSpec).at F).post enc Try.prog Try.f3 false true false false) := by
  refine returnsInHanded_of_cond_sized (C := Try.checked) (s := Rows.OpenSpec.upto Rows.ratioFractionsSpec) (k := Rows.uptoSmall) rfl own started (by kernel_rfl) Try.func3
    (OpenSpec.witness (enc := enc) (C := Try.checked) (s := Rows.OpenSpec.upto Rows.ratioFractionsSpec) (k := Rows.uptoSmall) rfl false ⟨#[], #[.agg #[.bool false, .slice none 0 0, .slice none 0 0]], []⟩ 8 (by kernel_rfl) (by kernel_rfl) (by kernel_rfl)
      (x := ([.agg [.agg [.lit (.bool false), .nil], .nil]], [], [])) (by kernel_rfl) rfl (by kernel_rfl)) ?_
  intro W base args ds gs before hval hW _ hk hsz _
  exact contract H enc W base args ds gs before hval hW hsz hk

theorem over : Rows.ratioFractionsUptoRow.holds Try.pinned (Rows.OpenSpec.upto Rows.ratioFractionsSpec) :=
  OpenClaim.holds_of_cond 3 Try.f3 rfl rfl rfl rfl rfl rfl rfl ⟨rfl, rfl, rfl, rfl, rfl⟩ rfl rfl rfl rfl rfl (by kernel_rfl) Try.func3 (by kernel_rfl)
    (of_decide_eq_true (by kernel_rfl)) (by unfold Func.isWrapper; first | (rw [if_pos (by decide +kernel)]; kernel_rfl) | (rw [if_neg (by decide +kernel)]; exact ⟨rfl, rfl⟩))
    (fun os started H enc _ F => lifted os started H enc F)

end Go.Proofs.Ytapjaceahifihaa.ratioFractions
namespace Go.Proofs.Ytapjaceahifihaa
theorem ratioFractions_holds : Rows.RatioFractionsUptoSaid := ratioFractions.over
#print axioms ratioFractions_holds
end Go.Proofs.Ytapjaceahifihaa
