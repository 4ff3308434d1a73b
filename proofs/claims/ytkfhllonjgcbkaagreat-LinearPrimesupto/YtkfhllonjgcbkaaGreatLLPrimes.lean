/-
  LinearPrimes.
-/
import Derived.Test.YtkfhllonjgcbkaaGreatWK4
import Derived.Test.YtkfhllonjgcbkaaGreatWO7
import Derived.Test.YtkfhllonjgcbkaaGreatWLA
import Derived.Test.YtkfhllonjgcbkaaGreatOpenR
namespace Go.Proofs.YtkfhllonjgcbkaaGreat.linearPrimes
open Go.ChangeShapes Go.WideShapes Go.ChangeAt Go.RowKit Go.Proofs.YtkfhllonjgcbkaaGreat
set_option linter.unusedVariables false
set_option linter.unusedSimpArgs false

set_option maxHeartbeats 4000000 in
set_option maxRecDepth 100000 in
theorem walkM (a : Option Addr) (ca : Nat) (L : List Mo) (w : World) (hF : FAt w a L) (hok : ∀ p ∈ L, p.2.ok w ∧ p.2.n ≤ 4194304 ∧ p.2.m ≤ 4194304) (hc : L.length ≤ ca) (hm : L.length ≤ 1048576) (hw : wts (fo L) ≤ 8388608) :
    Calls Tryz.prog 3 #[.slice a L.length ca] w fun e w' => e = .returned (.bool true) ∧ Below w.heap.size w w' := by
  have G1 := hide' (lPrime_is a ca L w hF (fun p hp => (hok p hp).1) hc hm (fun p hp => by have := (hok p hp).2; omega) hw)
  have G2 := hide' (fun w' (hb : Below w.heap.size w w') => vlPrime_is a ca L w' (hF.later hb) (fun p hp => ⟨(hok p hp).1.later hb, by have := (hok p hp).2; omega⟩) hc hm hw)
  have hl2 := nfm_length (fo L)
  rw [fo_length] at hl2
  have HP := hide' (fun g (h : Prm (nfm (fo L)) g) => (Prm.sz h).mono (show wts (fo L) + 1 ≤ 8388609 by omega))
  obtain ⟨l, hl⟩ : ∃ l, nfm (fo L) = l := ⟨_, rfl⟩
  rw [hl] at G1 G2 hl2 HP
  clear hF hok hc hw hl
  go_enter Tryz.func3, Tryz.ntmps3
  go_wp2_with fail
  refine G1.out.mono ?_
  rintro e w1 ⟨g, a1, c1, R1, p1, q1, rfl, hP1, b1, s1, e1, f1, k1, k2⟩
  have hz := HP.out g hP1
  have hn := nfm_length (fmap (fun r => g⁻¹ * r) l)
  rw [fmap_length] at hn
  have hR1 : R1.length ≤ 2097152 := by rw [← fo_length, f1]; omega
  obtain ⟨wA, hwA⟩ : ∃ wA, w1.alloc (.cells #[.bool (ng g.num), .slice p1 (ln (am g.num)) (ln (am g.num)), .slice q1 (ln g.den) (ln g.den)] 29) = wA := ⟨_, rfl⟩
  have bA : Below w1.heap.size w1 wA := by subst hwA; exact below_alloc _
  have y0 : wA.cell? ⟨w1.heap.size, 0, none⟩ = some (.bool (ng g.num)) := by subst hwA; go_simp
  have y1 : wA.cell? ⟨w1.heap.size, 1, none⟩ = some (.slice p1 (ln (am g.num)) (ln (am g.num))) := by subst hwA; go_simp
  have y2 : wA.cell? ⟨w1.heap.size, 2, none⟩ = some (.slice q1 (ln g.den) (ln g.den)) := by subst hwA; go_simp
  replace s1 := s1.later bA
  replace e1 := e1.later bA
  replace k1 := k1.later bA
  replace k2 := k2.later bA
  replace b1 := b1.trans (bA.mono b1.size)
  clear bA
  go_wp2_with fail
  clear hwA
  refine (G2.out _ b1).mono ?_
  rintro e w2 ⟨g2, a2, c2, R2, p2, q2, rfl, hP2, b2, s2, e2, f2, k3, k4⟩
  obtain rfl : g2 = g := hP1.uniq hP2
  replace s1 := s1.later b2
  replace e1 := e1.later b2
  replace k1 := k1.later b2
  replace k2 := k2.later b2
  replace b1 := b1.trans (b2.mono b1.size)
  replace y0 := below_cell b2 y0
  replace y1 := below_cell b2 y1
  replace y2 := below_cell b2 y2
  clear b2
  obtain ⟨wB, hwB⟩ : ∃ wB, w2.alloc (.cells #[.bool (ng g2.num), .slice p2 (ln (am g2.num)) (ln (am g2.num)), .slice q2 (ln g2.den) (ln g2.den)] 29) = wB := ⟨_, rfl⟩
  have bB : Below w2.heap.size w2 wB := by subst hwB; exact below_alloc _
  have z0 : wB.cell? ⟨w2.heap.size, 0, none⟩ = some (.bool (ng g2.num)) := by subst hwB; go_simp
  have z1 : wB.cell? ⟨w2.heap.size, 1, none⟩ = some (.slice p2 (ln (am g2.num)) (ln (am g2.num))) := by subst hwB; go_simp
  have z2 : wB.cell? ⟨w2.heap.size, 2, none⟩ = some (.slice q2 (ln g2.den) (ln g2.den)) := by subst hwB; go_simp
  replace s1 := s1.later bB
  replace e1 := e1.later bB
  replace k1 := k1.later bB
  replace k2 := k2.later bB
  replace s2 := s2.later bB
  replace e2 := e2.later bB
  replace k3 := k3.later bB
  replace k4 := k4.later bB
  replace b1 := b1.trans (bB.mono b1.size)
  replace y0 := below_cell bB y0
  replace y1 := below_cell bB y1
  replace y2 := below_cell bB y2
  clear bB
  have G3 := hide' (SameForm_is a1 c1 R1 a2 c2 R2 wB s1.lies s2.lies e1 e2 s1.len s2.len hR1 (f1.trans f2.symm))
  clear s1 e1 f1 s2 e2 f2
  go_wp2_with fail
  clear hwB
  refine G3.out.mono ?_
  rintro e w3 ⟨rfl, b3⟩
  replace k1 := k1.later b3
  replace k2 := k2.later b3
  replace k3 := k3.later b3
  replace k4 := k4.later b3
  replace b1 := b1.trans (b3.mono b1.size)
  replace y0 := below_cell b3 y0
  replace y1 := below_cell b3 y1
  replace y2 := below_cell b3 y2
  replace z0 := below_cell b3 z0
  replace z1 := below_cell b3 z1
  replace z2 := below_cell b3 z2
  have G4 := hide' (SameRat_is g2.num g2.den p1 q1 p2 q2 w3 (Nat.le_trans hz.1 (by omega)) (Nat.le_trans hz.2 (by omega)) k1 k2 k3 k4)
  clear b3 k1 k2 k3 k4
  go_wp2_with fail
  refine G4.out.mono ?_
  rintro e w4 ⟨rfl, b4⟩
  go_wp2
  go_ret
  exact ⟨rfl, b1.trans (b4.mono b1.size)⟩
theorem bulkL_app : ∀ (L M : List Mo), bulkL (L ++ M) = bulkL L + bulkL M
  | [], M => by simp [bulkL]
  | p :: L, M => by simp only [List.cons_append, bulkL, bulkL_app L M]; omega
theorem bulkL_mos (v : Nat → Int) (f : Nat → RatV) : ∀ n, bulkL (mos v f n) = bulkV f n + n
  | 0 => rfl
  | n + 1 => by
    unfold mos
    rw [List.range_succ, List.map_append, bulkL_app]
    have h := bulkL_mos v f n
    unfold mos at h
    rw [h]
    simp only [List.map, bulkL, bulkV]
    omega
theorem walk (af : Option Addr) (n capf : Nat) (v : Nat → Int) (f : Nat → RatV) (w : World) (hF : FormAt w af n v f) (hfo : ∀ i, i < n → (Lit.int .i64 (v i)).wf = true ∧ (f i).ok w) (hcf : n ≤ capf) (hb : bulkV f n ≤ 1048576) :
    Calls Tryz.prog 3 #[.slice af n capf] w fun e w' => e = .returned (.bool true) ∧ Below w.heap.size w w' := by
  have b1 := bulk_n (q := f) n
  have hbm := bulkL_mos v f n
  have hk : ∀ p ∈ mos v f n, p.2.ok w ∧ p.2.n ≤ 4194304 ∧ p.2.m ≤ 4194304 := fun p hp => by
    obtain ⟨i, hi, rfl⟩ := mos_mem hp
    have := bulk_at (q := f) n i hi
    exact ⟨(hfo i hi).2, by show (f i).n ≤ _; omega, by show (f i).m ≤ _; omega⟩
  have hws := wts_bulk (mos v f n) (fun p hp => (hk p hp).1)
  have h := walkM af capf (mos v f n) w (mos_at hF) hk (by rw [mos_length]; exact hcf) (by rw [mos_length]; omega) (by omega)
  rw [mos_length] at h
  exact h

set_option maxRecDepth 100000 in
theorem contract (H : Type) (enc : TypeId × Value → H) (W : World) (base : Nat) (args : Array Value) (ds gs : List (DataW H)) (before : List MemPlace)
    (hval : ∀ (j : Nat) t v, Tryz.f3.params[j]? = some t → args[j]? = some v → Value.okWide Tryz.prog W .any base t v)
    (hW : DataW.Whole enc Tryz.prog Tryz.f3.params.toList Rows.linearPrimesSpec.vars false W args.toList ds gs before)
    (hsz : (DataW.weightsEach Tryz.prog (Tryz.f3.params.toList ++ Rows.linearPrimesSpec.plain.varTypes Tryz.prog) (ds ++ gs)).all (· ≤ reachBytes) = true) (hk : Rows.uptoSmall H (ds ++ gs) = true) :
    Calls Tryz.prog 3 args W fun e W' => ∃ v, e = .returned v ∧ Rows.linearPrimesSpec.post enc Tryz.prog Tryz.f3 false true false false W args v W' := by
  have hW' := hW
  obtain ⟨p, q, hA0, hV, rfl, hfz, hnd⟩ := hW
  have hA : DataW.TrodAll enc Tryz.prog W 0 (fun _ => true) true Tryz.f3.params.toList args.toList ds p := hA0
  rw [Tryz.params3] at hA hval hsz
  obtain ⟨v0, vs0, d0, ds0, p0, q0, hargs, rfl, rfl, h0, r0⟩ := trodAll_cons hA
  obtain ⟨rfl, rfl, rfl⟩ := trodAll_nil r0
  obtain rfl : args = #[v0] := by cases args; simp_all
  obtain ⟨rfl, rfl⟩ := trodVars_none hV
  have lt0 : ∀ x ∈ p0, x.block < W.heap.size := by obtain ⟨m, hm⟩ := h0; exact DataW.trod_lt m _ _ _ hm
  obtain ⟨xa0, xl0, xc0, rfl⟩ := okWide_slice Tryz.underlying23 (hval 0 23 v0 rfl rfl)
  obtain ⟨fu0, hm0⟩ := id h0
  obtain ⟨fa0, fn0, fc0, fv0, ff0, hcs0, hF0, hfo0, hfc0, hfz0, hfu0⟩ := open_Form hm0 (sized_at 0 hsz rfl rfl)
  simp [Value.cells] at hcs0
  obtain ⟨rfl, rfl, rfl⟩ := hcs0
  clear hA0
  have hbulk := of_decide_eq_true hk
  simp only [List.append_nil, Rows.uptoBulkAll] at hbulk
  simp only [List.append_nil] at hW'
  refine (walk xa0 xl0 xc0 fv0 ff0 W hF0 hfo0 hfc0 (by omega)).mono fun e W' ⟨he, bel⟩ => ?_
  subst he
  exact ⟨_, rfl, _, _, _, [], _, [], hW', trodAll_mk1 (shut_bool Tryz.underlying4 _), (trodAll_cons_mk (Below.trod laidOut (by kernel_rfl) (of_decide_eq_true (by kernel_rfl)) h0 bel lt0) trodAll_mk0), rfl, bel.frame _, fun h => by cases h⟩

set_option maxRecDepth 100000 in
theorem lifted (os : Os) (started : os.Started) (H : Type) (enc : TypeId × Value → H) (F : Stop.Interp) :
    ReturnsInHanded {} Tryz.checked os 3 .any ((Rows.OpenSpec.upto Rows.linearPrimesSpec).pre6 enc Tryz.prog Tryz.f3 Rows.linearPrimesUptoRow.domain false) (((Rows.OpenSpec.upto Rows.linearPrimesSpec).at F).post enc Tryz.prog Tryz.f3 false true false false) := by
  refine returnsInHanded_of_cond_sized (C := Tryz.checked) (s := Rows.OpenSpec.upto Rows.linearPrimesSpec) (k := Rows.uptoSmall) rfl own started (by kernel_rfl) Tryz.func3
    (OpenSpec.witness (enc := enc) (C := Tryz.checked) (s := Rows.OpenSpec.upto Rows.linearPrimesSpec) (k := Rows.uptoSmall) rfl false ⟨#[], #[.slice none 0 0], []⟩ 8 (by kernel_rfl) (by kernel_rfl) (by kernel_rfl)
      (x := ([.nil], [], [])) (by kernel_rfl) rfl (by kernel_rfl)) ?_
  intro W base args ds gs before hval hW _ hk hsz _
  exact contract H enc W base args ds gs before hval hW hsz hk

theorem over : Rows.linearPrimesUptoRow.holds Tryz.pinned (Rows.OpenSpec.upto Rows.linearPrimesSpec) :=
  OpenClaim.holds_of_cond 3 Tryz.f3 rfl rfl rfl rfl rfl rfl rfl ⟨rfl, rfl, rfl, rfl, rfl⟩ rfl rfl rfl rfl rfl (by kernel_rfl) Tryz.func3 (by kernel_rfl)
    (of_decide_eq_true (by kernel_rfl)) (by unfold Func.isWrapper; first | (rw [if_pos (by decide +kernel)]; kernel_rfl) | (rw [if_neg (by decide +kernel)]; exact ⟨rfl, rfl⟩))
    (fun os started H enc _ F => lifted os started H enc F)

end Go.Proofs.YtkfhllonjgcbkaaGreat.linearPrimes
namespace Go.Proofs.YtkfhllonjgcbkaaGreat
theorem linearPrimes_holds : Rows.LinearPrimesUptoSaid := linearPrimes.over
#print axioms linearPrimes_holds
end Go.Proofs.YtkfhllonjgcbkaaGreat
