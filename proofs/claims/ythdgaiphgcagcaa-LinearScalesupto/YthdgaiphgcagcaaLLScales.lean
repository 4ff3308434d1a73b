/-
  LinearScales.
-/
import Derived.Test.YthdgaiphgcagcaaWO6
import Derived.Test.YthdgaiphgcagcaaWO7
import Derived.Test.YthdgaiphgcagcaaOpenR
namespace Go.Proofs.Ythdgaiphgcagcaa.linearScales
open Go.ChangeShapes Go.WideShapes Go.ChangeAt Go.RowKit Go.Proofs.Ythdgaiphgcagcaa
set_option linter.unusedVariables false
set_option linter.unusedSimpArgs false

set_option maxHeartbeats 4000000 in
set_option maxRecDepth 100000 in
theorem walkL (C : RatV) (a : Option Addr) (c : Nat) (L : List Mo) (K : Nat) (w : World) (hC : C.ok w) (hF : FAt w a L) (hok : ∀ p ∈ L, p.2.ok w) (hc : L.length ≤ c) (hm : L.length ≤ 1048576) (hK : ∀ p ∈ L, C.n + C.m + p.2.n + p.2.m ≤ K) (hCK : C.n + C.m ≤ K) (hKm : K ≤ 1048576) (hnK : L.length * (2 * K + 5) + 1 ≤ 1099511627776) :
    Calls Try.prog 3 #[.agg #[.bool C.s, .slice C.a C.n C.c, .slice C.b C.m C.e], .slice a L.length c] w fun e w' => e = .returned (.bool true) ∧ Below w.heap.size w w' := by
  have G1 := hide' (fun w' (hb : Below w.heap.size w w') => lScale_is C a c L K w' (hF.later hb) (fun p hp => (hok p hp).later hb) hc hm (hC.later hb) hK hCK hKm hnK)
  have G2 := hide' (fun w' (hb : Below w.heap.size w w') => vlScale_is C a c L K w' (hF.later hb) (fun p hp => (hok p hp).later hb) hc hm (hC.later hb) hK hCK hKm hnK)
  have hl : (nfm (fmap (fun r => C.val * r) (fo L))).length ≤ 2097152 := by have := nfm_length (fmap (fun r => C.val * r) (fo L)); rw [fmap_length, fo_length] at this; omega
  obtain ⟨T, hT⟩ : ∃ T, nfm (fmap (fun r => C.val * r) (fo L)) = T := ⟨_, rfl⟩
  rw [hT] at G1 G2 hl
  clear hF hok hc hm hC hK hCK hKm hnK hT
  go_enter Try.func3, Try.ntmps3
  go_wp2_with fail
  obtain ⟨wA, hwA⟩ : ∃ wA, w.alloc (.cells #[.bool C.s, .slice C.a C.n C.c, .slice C.b C.m C.e] 27) = wA := ⟨_, rfl⟩
  have bA : Below w.heap.size w wA := by subst hwA; exact below_alloc _
  have a0 : wA.cell? ⟨w.heap.size, 0, none⟩ = some (.bool C.s) := by subst hwA; go_simp
  have a1 : wA.cell? ⟨w.heap.size, 1, none⟩ = some (.slice C.a C.n C.c) := by subst hwA; go_simp
  have a2 : wA.cell? ⟨w.heap.size, 2, none⟩ = some (.slice C.b C.m C.e) := by subst hwA; go_simp
  rw [hwA]
  clear hwA
  have bD : Below wA.heap.size wA wA.drew := (Below.refl _ _).drew
  have ka0 := below_cell bD a0
  have ka1 := below_cell bD a1
  have ka2 := below_cell bD a2
  replace bA := bA.trans (bD.mono bA.size)
  refine wp_region_held_drew (S := fun w' => w'.cell? ⟨w.heap.size, 0, none⟩ = some (.bool C.s) ∧ w'.cell? ⟨w.heap.size, 1, none⟩ = some (.slice C.a C.n C.c) ∧ w'.cell? ⟨w.heap.size, 2, none⟩ = some (.slice C.b C.m C.e)) (by kernel_rfl) ⟨ka0, ka1, ka2⟩ (fun hHeld => ?_)
  clear ka0 ka1 ka2
  generalize wA.drew = w0 at bD bA hHeld ⊢
  clear a0 a1 a2 bD
  refine take' 0 (v := ?_) rfl (by kernel_rfl) (by kernel_rfl) (by kernel_rfl) (fun _ _ _ h => h) (Or.inl ⟨by rfl, ?_⟩) (by assumption) ?_
  rotate_left
  · intro w9 hSw
    go_simp
    first | done | with_reducible rfl
  simp only [Act.put, List.setIfInBounds_toArray, List.set_cons_zero, List.set_cons_succ]
  refine take' 1 (v := ?_) rfl (by kernel_rfl) (by kernel_rfl) (by kernel_rfl) (fun _ _ _ h => h) (Or.inl ⟨by rfl, ?_⟩) (by assumption) ?_
  rotate_left
  · intro w9 hSw
    go_simp
    first | done | with_reducible rfl
  simp only [Act.put, List.setIfInBounds_toArray, List.set_cons_zero, List.set_cons_succ]
  refine take' 3 (v := ?_) rfl (by kernel_rfl) (by kernel_rfl) (by kernel_rfl) (fun _ _ _ h => h) (Or.inl ⟨by rfl, ?_⟩) (by assumption) ?_
  rotate_left
  · intro w9 hSw
    go_simp
    first | done | with_reducible rfl
  simp only [Act.put, List.setIfInBounds_toArray, List.set_cons_zero, List.set_cons_succ]
  refine take' 4 (v := ?_) rfl (by kernel_rfl) (by kernel_rfl) (by kernel_rfl) (fun _ _ _ h => h) (Or.inl ⟨by rfl, ?_⟩) (by assumption) ?_
  rotate_left
  · intro w9 hSw
    go_simp
    first | done | with_reducible rfl
  simp only [Act.put, List.setIfInBounds_toArray, List.set_cons_zero, List.set_cons_succ]
  refine wpAnyH_ready (rs := [2]) (by kernel_rfl) (by simp) ?_
  refine cons' rfl (fun KK hKK => ?_)
  go_simp
  refine (G1.out _ bA).mono ?_
  rintro e w1 ⟨a1, c1, R1, rfl, b1, s1, e1, f1⟩
  replace bA := bA.trans (b1.mono bA.size)
  replace hHeld := (⟨below_cell b1 hHeld.1, below_cell b1 hHeld.2.1, below_cell b1 hHeld.2.2⟩ : _ ∧ _ ∧ _)
  go_wp2_with fail
  refine hKK.out _ _ hHeld ?_
  clear hHeld
  intro hHeld
  clear hKK KK
  try simp only [Act.put, List.setIfInBounds_toArray, List.set_cons_zero, List.set_cons_succ]
  refine wpAnyH_ready (rs := [5]) (by kernel_rfl) (by simp) ?_
  refine cons' rfl (fun KK hKK => ?_)
  go_simp
  refine (G2.out _ bA).mono ?_
  rintro e w2 ⟨a2, c2, R2, rfl, b2, s2, e2, f2⟩
  replace bA := bA.trans (b2.mono bA.size)
  replace hHeld := (⟨below_cell b2 hHeld.1, below_cell b2 hHeld.2.1, below_cell b2 hHeld.2.2⟩ : _ ∧ _ ∧ _)
  replace s1 := s1.later b2
  replace e1 := fun p hp => (e1 p hp).later b2
  go_wp2_with fail
  refine hKK.out _ _ hHeld ?_
  clear hHeld
  intro hHeld
  clear hKK KK
  try simp only [Act.put, List.setIfInBounds_toArray, List.set_cons_zero, List.set_cons_succ]
  refine wpAnyH_ready (rs := [6]) (by kernel_rfl) (by simp) ?_
  refine cons' rfl (fun KK hKK => ?_)
  have hl1 : R1.length ≤ 2097152 := by rw [← fo_length, f1]; exact hl
  go_simp
  refine (SameForm_is a1 c1 R1 a2 c2 R2 _ s1.lies s2.lies e1 e2 s1.len s2.len hl1 (by rw [f1, f2])).mono ?_
  rintro e w3 ⟨rfl, b3⟩
  replace bA := bA.trans (b3.mono bA.size)
  replace hHeld := (⟨below_cell b3 hHeld.1, below_cell b3 hHeld.2.1, below_cell b3 hHeld.2.2⟩ : _ ∧ _ ∧ _)
  go_wp2_with fail
  refine hKK.out _ _ hHeld ?_
  clear hHeld
  intro hHeld
  clear hKK KK
  try simp only [Act.put, List.setIfInBounds_toArray, List.set_cons_zero, List.set_cons_succ]
  refine take' 7 (v := ?_) rfl (by kernel_rfl) (by kernel_rfl) (by kernel_rfl) (fun _ _ _ h => h) (Or.inl ⟨by rfl, ?_⟩) (by assumption) ?_
  rotate_left
  · intro w9 hSw
    go_simp
    first | done | with_reducible rfl
  simp only [Act.put, List.setIfInBounds_toArray, List.set_cons_zero, List.set_cons_succ]
  refine wpAnyH_done (by kernel_rfl) ?_ _
  go_wp2
  go_ret
  exact ⟨rfl, bA⟩
theorem walk (C : RatV) (af : Option Addr) (n capf : Nat) (v : Nat → Int) (f : Nat → RatV) (w : World) (hC : C.ok w) (hF : FormAt w af n v f) (hfo : ∀ i, i < n → (Lit.int .i64 (v i)).wf = true ∧ (f i).ok w) (hcf : n ≤ capf) (hb : C.n + C.m + bulkV f n ≤ 1048576) :
    Calls Try.prog 3 #[.agg #[.bool C.s, .slice C.a C.n C.c, .slice C.b C.m C.e], .slice af n capf] w fun e w' => e = .returned (.bool true) ∧ Below w.heap.size w w' := by
  have b1 := bulk_n (q := f) n
  have h := walkL C af capf (mos v f n) (C.n + C.m + (bulkV f n - n)) w hC (mos_at hF) (fun p hp => by obtain ⟨i, hi, rfl⟩ := mos_mem hp; exact (hfo i hi).2) (by rw [mos_length]; exact hcf) (by rw [mos_length]; omega)
    (fun p hp => by
      obtain ⟨i, hi, rfl⟩ := mos_mem hp
      have := bulk_at (q := f) n i hi
      show C.n + C.m + (f i).n + (f i).m ≤ _
      omega) (by omega) (by omega) (by rw [mos_length]; exact rect (by omega))
  rw [mos_length] at h
  exact h

set_option maxRecDepth 100000 in
theorem contract (H : Type) (enc : TypeId × Value → H) (W : World) (base : Nat) (args : Array Value) (ds gs : List (DataW H)) (before : List MemPlace)
    (hval : ∀ (j : Nat) t v, Try.f3.params[j]? = some t → args[j]? = some v → Value.okWide Try.prog W .any base t v)
    (hW : DataW.Whole enc Try.prog Try.f3.params.toList Rows.linearScalesSpec.vars false W args.toList ds gs before)
    (hsz : (DataW.weightsEach Try.prog (Try.f3.params.toList ++ Rows.linearScalesSpec.plain.varTypes Try.prog) (ds ++ gs)).all (· ≤ reachBytes) = true) (hk : Rows.uptoSmall H (ds ++ gs) = true) :
    Calls Try.prog 3 args W fun e W' => ∃ v, e = .returned v ∧ Rows.linearScalesSpec.post enc Try.prog Try.f3 false true false false W args v W' := by
  have hW' := hW
  obtain ⟨p, q, hA0, hV, rfl, hfz, hnd⟩ := hW
  have hA : DataW.TrodAll enc Try.prog W 0 (fun _ => true) true Try.f3.params.toList args.toList ds p := hA0
  rw [Try.params3] at hA hval hsz
  obtain ⟨v0, vs0, d0, ds0, p0, q0, hargs, rfl, rfl, h0, r0⟩ := trodAll_cons hA
  obtain ⟨v1, vs1, d1, ds1, p1, q1, rfl, rfl, rfl, h1, r1⟩ := trodAll_cons r0
  obtain ⟨rfl, rfl, rfl⟩ := trodAll_nil r1
  obtain rfl : args = #[v0, v1] := by cases args; simp_all
  obtain ⟨rfl, rfl⟩ := trodVars_none hV
  have lt0 : ∀ x ∈ p0, x.block < W.heap.size := by obtain ⟨m, hm⟩ := h0; exact DataW.trod_lt m _ _ _ hm
  obtain ⟨qv0, rfl, hqo0, hqu0⟩ := open_RatV (hval 0 27 v0 rfl rfl) h0 (sized_at 0 hsz rfl rfl)
  have lt1 : ∀ x ∈ p1, x.block < W.heap.size := by obtain ⟨m, hm⟩ := h1; exact DataW.trod_lt m _ _ _ hm
  obtain ⟨xa1, xl1, xc1, rfl⟩ := okWide_slice Try.underlying29 (hval 1 29 v1 rfl rfl)
  obtain ⟨fu1, hm1⟩ := id h1
  obtain ⟨fa1, fn1, fc1, fv1, ff1, hcs1, hF1, hfo1, hfc1, hfz1, hfu1⟩ := open_Form hm1 (sized_at 1 hsz rfl rfl)
  simp [Value.cells] at hcs1
  obtain ⟨rfl, rfl, rfl⟩ := hcs1
  clear hA0
  have hbulk := of_decide_eq_true hk
  simp only [List.append_nil, Rows.uptoBulkAll] at hbulk
  simp only [List.append_nil] at hW'
  refine (walk qv0 xa1 xl1 xc1 fv1 ff1 W hqo0 hF1 hfo1 hfc1 (by omega)).mono fun e W' ⟨he, bel⟩ => ?_
  subst he
  exact ⟨_, rfl, _, _, _, [], _, [], hW', trodAll_mk1 (shut_bool Try.underlying4 _), (trodAll_cons_mk (Below.trod laidOut (by kernel_rfl) (of_decide_eq_true (by kernel_rfl)) h0 bel lt0) (trodAll_cons_mk (Below.trod laidOut (by kernel_rfl) (of_decide_eq_true (by kernel_rfl)) h1 bel lt1) trodAll_mk0)), rfl, bel.frame _, fun h => by cases h⟩

set_option maxRecDepth 100000 in
theorem lifted (os : Os) (started : os.Started) (H : Type) (enc : TypeId × Value → H) (F : Stop.Interp) :
    ReturnsInHanded {} Try.checked os 3 .any ((Rows.OpenSpec.upto Rows.linearScalesSpec).pre6 enc Try.prog Try.f3 Rows.linearScalesUptoRow.domain false) (((Rows.OpenSpec.upto Rows.linearScalesSpec).at F).post enc Try.prog Try.f3 false true false false) := by
  refine returnsInHanded_of_cond_sized (C := Try.checked) (s := Rows.OpenSpec.upto Rows.linearScalesSpec) (k := Rows.uptoSmall) rfl own started (by kernel_rfl) Try.func3
    (OpenSpec.witness (enc := enc) (C := Try.checked) (s := Rows.OpenSpec.upto Rows.linearScalesSpec) (k := Rows.uptoSmall) rfl false ⟨#[], #[.agg #[.bool false, .slice none 0 0, .slice none 0 0], .slice none 0 0], []⟩ 8 (by kernel_rfl) (by kernel_rfl) (by kernel_rfl)
      (x := ([.agg [.agg [.lit (.bool false), .nil], .nil], .nil], [], [])) (by kernel_rfl) rfl (by kernel_rfl)) ?_
  intro W base args ds gs before hval hW _ hk hsz _
  exact contract H enc W base args ds gs before hval hW hsz hk

theorem over : Rows.linearScalesUptoRow.holds Try.pinned (Rows.OpenSpec.upto Rows.linearScalesSpec) :=
  OpenClaim.holds_of_cond 3 Try.f3 rfl rfl rfl rfl rfl rfl rfl ⟨rfl, rfl, rfl, rfl, rfl⟩ rfl rfl rfl rfl rfl (by kernel_rfl) Try.func3 (by kernel_rfl)
    (of_decide_eq_true (by kernel_rfl)) (by unfold Func.isWrapper; first | (rw [if_pos (by decide +kernel)]; kernel_rfl) | (rw [if_neg (by decide +kernel)]; exact ⟨rfl, rfl⟩))
    (fun os started H enc _ F => lifted os started H enc F)

end Go.Proofs.Ythdgaiphgcagcaa.linearScales
namespace Go.Proofs.Ythdgaiphgcagcaa
theorem linearScales_holds : Rows.LinearScalesUptoSaid := linearScales.over
#print axioms linearScales_holds
end Go.Proofs.Ythdgaiphgcagcaa
