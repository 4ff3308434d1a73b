/-
  LinearCombines.
-/
import Derived.Test.YtkflbhkcofmaoaaGreatWC5
import Derived.Test.YtkflbhkcofmaoaaGreatWOD
import Derived.Test.YtkflbhkcofmaoaaGreatOpenW
namespace Go.Proofs.YtkflbhkcofmaoaaGreat.linearCombines
open Go.ChangeShapes Go.WideShapes Go.ChangeAt Go.RowKit Go.Proofs.YtkflbhkcofmaoaaGreat
set_option linter.unusedVariables false
set_option linter.unusedSimpArgs false
set_option maxHeartbeats 8000000 in
set_option maxRecDepth 100000 in
theorem walk (a : Option Addr) (n cap : Nat) (k : Nat → Wtd) (w : World) (hA : WtsAt w a n k) (hok : ∀ i, i < n → (k i).ok w) (hc : n ≤ cap) (hb : bulkW k n ≤ 2097152) :
    Calls Tryz.prog 3 #[.slice a n cap] w fun e w' => e = .returned (.bool true) ∧ Below w.heap.size w w' := by
  have G1 := hide' (lCombine_is a n cap k w hA hok hc hb)
  have G2 := hide' (fun w' (hb9 : Below w.heap.size w w') => vlCombine_is a n cap k w' (hA.later hb9) (fun i hi => (hok i hi).later hb9) hc hb)
  have hs : sz 10485761 (cst k n) := (cst_sz hok).mono (by have := cb_le (k := k) n; omega)
  have HL := hide' (fun (R : List Mo) (hR : fo R = nfm (flat k n)) => show R.length ≤ 2097152 by
    have l1 := nfm_length (flat k n)
    rw [← hR, fo_length] at l1
    have := flat_len (k := k) n
    omega)
  obtain ⟨s, hs9⟩ : ∃ s, cst k n = s := ⟨_, rfl⟩
  obtain ⟨l, hl9⟩ : ∃ l, nfm (flat k n) = l := ⟨_, rfl⟩
  rw [hs9] at G1 G2 hs
  rw [hl9] at G1 G2 HL
  have HS := hide' (show ln (am s.num) ≤ 70368744177664 ∧ ln s.den ≤ 70368744177664 from ⟨Nat.le_trans hs.1 (by omega), Nat.le_trans hs.2 (by omega)⟩)
  clear hA hok hb hs9 hl9 hs hc
  go_enter Tryz.func3, Tryz.ntmps3
  go_wp2_with fail
  refine G1.out.mono ?_
  rintro e w1 ⟨a1, c1, R1, p1, q1, rfl, b1, s1, E1, f1, g1, g2⟩
  replace E1 : Ents w1 R1 := E1
  go_wp2_with fail
  refine (G2.out _ b1).mono ?_
  rintro e w2 ⟨a2, c2, R2, p2, q2, rfl, b2, s2, E2, f2, g3, g4⟩
  have G3 := hide' (SameAffine_is a1 c1 R1 a2 c2 R2 s.num s.den p1 q1 p2 q2 _ (s1.lies.later b2) s2.lies (E1.later b2) E2 s1.len s2.len (HL.out R1 f1) (f1.trans f2.symm) HS.out.1 HS.out.2 (g1.later b2) (g2.later b2) g3 g4)
  have hB := b1.trans (b2.mono b1.size)
  clear s1 s2 E1 E2 f1 f2 g1 g2 g3 g4 b1 b2 HL HS G1 G2
  go_wp2_with fail
  refine G3.out.mono ?_
  rintro e w3 ⟨rfl, b3⟩
  go_wp2
  go_ret
  exact ⟨rfl, hB.trans (b3.mono hB.size)⟩

set_option maxRecDepth 100000 in
theorem contract (H : Type) (enc : TypeId × Value → H) (W : World) (base : Nat) (args : Array Value) (ds gs : List (DataW H)) (before : List MemPlace)
    (hval : ∀ (j : Nat) t v, Tryz.f3.params[j]? = some t → args[j]? = some v → Value.okWide Tryz.prog W .any base t v)
    (hW : DataW.Whole enc Tryz.prog Tryz.f3.params.toList Rows.linearCombinesSpec.vars false W args.toList ds gs before)
    (hsz : (DataW.weightsEach Tryz.prog (Tryz.f3.params.toList ++ Rows.linearCombinesSpec.plain.varTypes Tryz.prog) (ds ++ gs)).all (· ≤ reachBytes) = true) (hk : Rows.uptoSmall H (ds ++ gs) = true) :
    Calls Tryz.prog 3 args W fun e W' => ∃ v, e = .returned v ∧ Rows.linearCombinesSpec.post enc Tryz.prog Tryz.f3 false true false false W args v W' := by
  have hW' := hW
  obtain ⟨p, q, hA0, hV, rfl, hfz, hnd⟩ := hW
  have hA : DataW.TrodAll enc Tryz.prog W 0 (fun _ => true) true Tryz.f3.params.toList args.toList ds p := hA0
  rw [Tryz.params3] at hA hval hsz
  obtain ⟨v0, vs0, d0, ds0, p0, q0, hargs, rfl, rfl, h0, r0⟩ := trodAll_cons hA
  obtain ⟨rfl, rfl, rfl⟩ := trodAll_nil r0
  obtain rfl : args = #[v0] := by cases args; simp_all
  obtain ⟨rfl, rfl⟩ := trodVars_none hV
  have lt0 : ∀ x ∈ p0, x.block < W.heap.size := by obtain ⟨m, hm⟩ := h0; exact DataW.trod_lt m _ _ _ hm
  obtain ⟨xa0, xl0, xc0, rfl⟩ := okWide_slice Tryz.underlying22 (hval 0 22 v0 rfl rfl)
  obtain ⟨fu0, hm0⟩ := id h0
  obtain ⟨fa0, fn0, fc0, ff0, hcs0, hF0, hfo0, hfc0, hfz0, hfu0⟩ := open_Wts hm0 (sized_at 0 hsz rfl rfl)
  simp [Value.cells] at hcs0
  obtain ⟨rfl, rfl, rfl⟩ := hcs0
  clear hA0
  have hbulk := of_decide_eq_true hk
  simp only [List.append_nil, Rows.uptoBulkAll] at hbulk
  simp only [List.append_nil] at hW'
  refine (walk xa0 xl0 xc0 ff0 W hF0 hfo0 hfc0 (by omega)).mono fun e W' ⟨he, bel⟩ => ?_
  subst he
  exact ⟨_, rfl, _, _, _, [], _, [], hW', trodAll_mk1 (shut_bool Tryz.underlying4 _), (trodAll_cons_mk (Below.trod laidOut (by kernel_rfl) (of_decide_eq_true (by kernel_rfl)) h0 bel lt0) trodAll_mk0), rfl, bel.frame _, fun h => by cases h⟩

set_option maxRecDepth 100000 in
theorem lifted (os : Os) (started : os.Started) (H : Type) (enc : TypeId × Value → H) (F : Stop.Interp) :
    ReturnsInHanded {} Tryz.checked os 3 .any ((Rows.OpenSpec.upto Rows.linearCombinesSpec).pre6 enc Tryz.prog Tryz.f3 Rows.linearCombinesUptoRow.domain false) (((Rows.OpenSpec.upto Rows.linearCombinesSpec).at F).post enc Tryz.prog Tryz.f3 false true false false) := by
  refine returnsInHanded_of_cond_sized (C := Tryz.checked) (s := Rows.OpenSpec.upto Rows.linearCombinesSpec) (k := Rows.uptoSmall) rfl own started (by kernel_rfl) Tryz.func3
    (OpenSpec.witness (enc := enc) (C := Tryz.checked) (s := Rows.OpenSpec.upto Rows.linearCombinesSpec) (k := Rows.uptoSmall) rfl false ⟨#[], #[.slice none 0 0], []⟩ 8 (by kernel_rfl) (by kernel_rfl) (by kernel_rfl)
      (x := ([.nil], [], [])) (by kernel_rfl) rfl (by kernel_rfl)) ?_
  intro W base args ds gs before hval hW _ hk hsz _
  exact contract H enc W base args ds gs before hval hW hsz hk

theorem over : Rows.linearCombinesUptoRow.holds Tryz.pinned (Rows.OpenSpec.upto Rows.linearCombinesSpec) :=
  OpenClaim.holds_of_cond 3 Tryz.f3 rfl rfl rfl rfl rfl rfl rfl ⟨rfl, rfl, rfl, rfl, rfl⟩ rfl rfl rfl rfl rfl (by kernel_rfl) Tryz.func3 (by kernel_rfl)
    (of_decide_eq_true (by kernel_rfl)) (by unfold Func.isWrapper; first | (rw [if_pos (by decide +kernel)]; kernel_rfl) | (rw [if_neg (by decide +kernel)]; exact ⟨rfl, rfl⟩))
    (fun os started H enc _ F => lifted os started H enc F)

end Go.Proofs.YtkflbhkcofmaoaaGreat.linearCombines
namespace Go.Proofs.YtkflbhkcofmaoaaGreat
theorem linearCombines_holds : Rows.LinearCombinesUptoSaid := linearCombines.over
#print axioms linearCombines_holds
end Go.Proofs.YtkflbhkcofmaoaaGreat
