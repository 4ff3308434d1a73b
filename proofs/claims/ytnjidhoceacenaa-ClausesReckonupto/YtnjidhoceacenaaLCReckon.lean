/-
  ClausesReckon.
-/
import Derived.Test.YtnjidhoceacenaaCLH
import Derived.Test.YtnjidhoceacenaaCLJ
import Derived.Test.YtnjidhoceacenaaOpenC
namespace Go.Proofs.Ytnjidhoceacenaa
open Go.RowKit
set_option linter.unusedVariables false
set_option linter.unusedSimpArgs false
/-- what Norm says: the clause, whether it has both, the error -/
def nmS (g : Nat → Int) (n : Nat) (s : List Int) : Prop := if allN isLit g n = true then Nrm (lst g n) s else s = []
def nmB (g : Nat → Int) (n : Nat) : Bool := if allN isLit g n = true then decide (hasB (lst g n)) else false
def nmE (g : Nat → Int) (n : Nat) : Int := if allN isLit g n = true then 0 else 180
theorem nmS_uniq {g : Nat → Int} {n : Nat} {s t : List Int} (h : nmS g n s) (k : nmS g n t) : s = t := by
  unfold nmS at h k
  by_cases e : allN isLit g n = true
  · rw [if_pos e] at h k; exact h.uniq k
  · rw [if_neg e] at h k; rw [h, k]
theorem nmS_ok {w : World} {a : Option Addr} {g : Nat → Int} {n : Nat} {s : List Int} (hL : LitsAt w a n g) (h : nmS g n s) : okL s := by
  unfold nmS at h
  by_cases e : allN isLit g n = true
  · rw [if_pos e] at h; exact fun z hz => lst_ok hL z ((h.2 z).1 hz)
  · rw [if_neg e] at h; subst h; exact fun z hz => by cases hz
def rsS (g : Nat → Int) (n : Nat) (g' : Nat → Int) (n' : Nat) (x : Int) (s : List Int) : Prop := if rsv g n g' n' x = true then Nrm (rest2 g n g' n' x) s else s = []
def rsE (g : Nat → Int) (n : Nat) (g' : Nat → Int) (n' : Nat) (x : Int) : Int := if rsv g n g' n' x = true then 0 else 180
theorem rsS_uniq {g : Nat → Int} {n : Nat} {g' : Nat → Int} {n' : Nat} {x : Int} {s t : List Int} (h : rsS g n g' n' x s) (k : rsS g n g' n' x t) : s = t := by
  unfold rsS at h k
  by_cases e : rsv g n g' n' x = true
  · rw [if_pos e] at h k; exact h.uniq k
  · rw [if_neg e] at h k; rw [h, k]
theorem rsS_ok {w : World} {a a' : Option Addr} {g : Nat → Int} {n : Nat} {g' : Nat → Int} {n' : Nat} {x : Int} {s : List Int} (hL : LitsAt w a n g) (hL' : LitsAt w a' n' g') (h : rsS g n g' n' x s) : okL s := by
  unfold rsS at h
  by_cases e : rsv g n g' n' x = true
  · rw [if_pos e] at h; exact fun z hz => rest_ok hL hL' z ((h.2 z).1 hz)
  · rw [if_neg e] at h; subst h; exact fun z hz => by cases hz
theorem pNorm_any (a : Option Addr) (n c : Nat) (g : Nat → Int) (w : World) (h : LitsAt w a n g) (hn : n ≤ 2097152) :
    Calls Try.prog 4 #[.slice a n c] w fun e w' => ∃ v s, e = .returned (.tuple #[v, .bool (nmB g n), .int .i64 (nmE g n)]) ∧ nmS g n s ∧ Own w w' v s := by
  unfold nmB nmE nmS
  by_cases e : allN isLit g n = true
  · simp only [if_pos e]
    refine (pNorm_is a n c g w h e (by omega)).mono ?_
    rintro e w' ⟨v, s, h1, h2, h3⟩
    exact ⟨v, s, h1, h2, h3⟩
  · simp only [if_neg e]
    refine (pNorm_no a n c g w h (by simpa using e)).mono ?_
    rintro e w' ⟨h1, h2⟩
    exact ⟨_, [], h1, rfl, World.ownsRow_nil _ _ _ _, h2⟩
theorem rNorm_any (a : Option Addr) (n c : Nat) (g : Nat → Int) (w : World) (h : LitsAt w a n g) (hn : n ≤ 2097152) :
    Calls Try.prog 5 #[.slice a n c] w fun e w' => ∃ v s, e = .returned (.tuple #[v, .bool (nmB g n), .int .i64 (nmE g n)]) ∧ nmS g n s ∧ Own w w' v s := by
  unfold nmB nmE nmS
  by_cases e : allN isLit g n = true
  · simp only [if_pos e]
    refine (rNorm_is a n c g w h e (by omega)).mono ?_
    rintro e w' ⟨v, s, h1, h2, h3, _⟩
    exact ⟨v, s, h1, h2, h3⟩
  · simp only [if_neg e]
    refine (rNorm_no a n c g w h (by simpa using e)).mono ?_
    rintro e w' ⟨h1, h2⟩
    exact ⟨_, [], h1, rfl, World.ownsRow_nil _ _ _ _, h2⟩
theorem pRes_any (a : Option Addr) (n c : Nat) (g : Nat → Int) (a' : Option Addr) (n' c' : Nat) (g' : Nat → Int) (x : Int) (w : World) (h : LitsAt w a n g) (h' : LitsAt w a' n' g') (hx : -9223372036854775808 ≤ x ∧ x ≤ 9223372036854775807) (hn : n ≤ 2097152) (hn' : n' ≤ 2097152) :
    Calls Try.prog 7 #[.slice a n c, .slice a' n' c', .int .i64 x] w fun e w' => ∃ v s, e = .returned (.tuple #[v, .int .i64 (rsE g n g' n' x)]) ∧ rsS g n g' n' x s ∧ Own w w' v s := by
  unfold rsE rsS
  by_cases e : rsv g n g' n' x = true
  · simp only [if_pos e]
    refine (pRes_is a n c g a' n' c' g' x w h h' hx hn hn' e).mono ?_
    rintro e w' ⟨v, s, h1, h2, h3⟩
    exact ⟨v, s, h1, h2, h3⟩
  · simp only [if_neg e]
    refine (pRes_no a n c g a' n' c' g' x w h h' hx (by simpa using e)).mono ?_
    rintro e w' ⟨h1, h2⟩
    exact ⟨_, [], h1, rfl, World.ownsRow_nil _ _ _ _, h2⟩
theorem rRes_any (a : Option Addr) (n c : Nat) (g : Nat → Int) (a' : Option Addr) (n' c' : Nat) (g' : Nat → Int) (x : Int) (w : World) (h : LitsAt w a n g) (h' : LitsAt w a' n' g') (hx : -9223372036854775808 ≤ x ∧ x ≤ 9223372036854775807) (hn : n ≤ 2097152) (hn' : n' ≤ 2097152) :
    Calls Try.prog 8 #[.slice a n c, .slice a' n' c', .int .i64 x] w fun e w' => ∃ v s, e = .returned (.tuple #[v, .int .i64 (rsE g n g' n' x)]) ∧ rsS g n g' n' x s ∧ Own w w' v s := by
  unfold rsE rsS
  by_cases e : rsv g n g' n' x = true
  · simp only [if_pos e]
    refine (rRes_is a n c g a' n' c' g' x w h h' hx hn hn' e).mono ?_
    rintro e w' ⟨v, s, h1, h2, h3⟩
    exact ⟨v, s, h1, h2, h3⟩
  · simp only [if_neg e]
    refine (rRes_no a n c g a' n' c' g' x w h h' hx (by simpa using e)).mono ?_
    rintro e w' ⟨h1, h2⟩
    exact ⟨_, [], h1, rfl, World.ownsRow_nil _ _ _ _, h2⟩
theorem same_own {w1 w2 w : World} {v v' : Value} {s : List Int} (h : Own w1 w v s) (h' : Own w2 w v' s) (ho : okL s) : Calls Try.prog 6 #[v, v'] w fun e w' => e = .returned (.bool true) ∧ Below w.heap.size w w' := by
  obtain ⟨va, ca, rfl, hca, hL⟩ := own_lits h.1 ho
  obtain ⟨vb, cb, rfl, hcb, hM⟩ := own_lits h'.1 ho
  exact same_is va s.length ca _ vb s.length cb _ w hL hM rfl
set_option maxHeartbeats 4000000 in
set_option maxRecDepth 100000 in
theorem reckon_walk (a : Option Addr) (n c : Nat) (g : Nat → Int) (a' : Option Addr) (n' c' : Nat) (g' : Nat → Int) (x : Int) (w : World) (h : LitsAt w a n g) (h' : LitsAt w a' n' g') (hx : -9223372036854775808 ≤ x ∧ x ≤ 9223372036854775807) (hn : n ≤ 2097152) (hn' : n' ≤ 2097152) :
    Calls Try.prog 3 #[.slice a n c, .slice a' n' c', .int .i64 x] w fun e w' => e = .returned (.bool true) ∧ Below w.heap.size w w' := by
  have G1 := hide' (fun w1 (hb : Below w.heap.size w w1) => pNorm_any a n c g w1 (h.later hb) hn)
  have G2 := hide' (fun w1 (hb : Below w.heap.size w w1) => rNorm_any a n c g w1 (h.later hb) hn)
  have G3 := hide' (fun w1 (hb : Below w.heap.size w w1) => pRes_any a n c g a' n' c' g' x w1 (h.later hb) (h'.later hb) hx hn hn')
  have G4 := hide' (fun w1 (hb : Below w.heap.size w w1) => rRes_any a n c g a' n' c' g' x w1 (h.later hb) (h'.later hb) hx hn hn')
  have G5 := hide' (fun w1 (hb : Below w.heap.size w w1) => pCovers_is a n c g a' n' c' g' w1 (h.later hb) (h'.later hb) (by omega))
  have G6 := hide' (fun w1 (hb : Below w.heap.size w w1) => rCovers_is a n c g a' n' c' g' w1 (h.later hb) (h'.later hb))
  have GN := hide' (fun w1 w2 w3 (v v' : Value) (s t : List Int) (h1 : nmS g n s) (h2 : nmS g n t) (o1 : Own w1 w3 v s) (o2 : Own w2 w3 v' t) => same_own o1 (nmS_uniq h2 h1 ▸ o2) (nmS_ok h h1))
  have GR := hide' (fun w1 w2 w3 (v v' : Value) (s t : List Int) (h1 : rsS g n g' n' x s) (h2 : rsS g n g' n' x t) (o1 : Own w1 w3 v s) (o2 : Own w2 w3 v' t) => same_own o1 (rsS_uniq h2 h1 ▸ o2) (rsS_ok h h' h1))
  generalize nmB g n = nb at G1 G2
  generalize nmE g n = ne at G1 G2
  generalize rsE g n g' n' x = re at G3 G4
  generalize allN (fun x => decide (x ∈ lst g' n')) g n = cv at G5 G6
  generalize nmS g n = NS at G1 G2 GN
  generalize rsS g n g' n' x = RS at G3 G4 GR
  clear h h'
  have hB := Below.refl w.heap.size w
  have e1 : (ne != ne) = false := by simp
  have e2 : (re == re) = true := by simp
  go_enter Try.func3, Try.ntmps3
  go_wp2_with fail
  refine (G1.out _ hB).mono ?_
  rintro e wA ⟨vA, sA, rfl, hNA, hOA⟩
  have HNA := hide' hNA
  have HOA := hide' hOA
  have bA := hOA.2
  replace hB := hB.trans (bA.mono hB.size)
  clear hNA hOA
  go_wp2_with fail
  refine (G2.out _ hB).mono ?_
  rintro e wB ⟨vB, sB, rfl, hNB, hOB⟩
  have HNB := hide' hNB
  have HOB := hide' hOB
  have bB := hOB.2
  replace hB := hB.trans (bB.mono hB.size)
  clear hNB hOB
  have GS := hide' (GN.out _ _ _ _ _ _ _ HNA.out HNB.out (HOA.out.later bB) HOB.out)
  clear bA bB HNA HNB HOA HOB GN G1 G2
  cases nb
  · skip
    go_wp2_with fail
    refine (GS.out).mono ?_
    rintro e w9 ⟨rfl, b9⟩
    replace hB := hB.trans (b9.mono hB.size)
    clear b9
    clear GS
    go_wp2_with fail
    refine (G3.out _ hB).mono ?_
    rintro e wC ⟨vC, sC, rfl, hNC, hOC⟩
    have HNC := hide' hNC
    have HOC := hide' hOC
    have bC := hOC.2
    replace hB := hB.trans (bC.mono hB.size)
    clear hNC hOC
    go_wp2_with fail
    refine (G4.out _ hB).mono ?_
    rintro e wD ⟨vD, sD, rfl, hND, hOD⟩
    have HND := hide' hND
    have HOD := hide' hOD
    have bD := hOD.2
    replace hB := hB.trans (bD.mono hB.size)
    clear hND hOD
    have GS := hide' (GR.out _ _ _ _ _ _ _ HNC.out HND.out (HOC.out.later bD) HOD.out)
    clear bC bD HNC HND HOC HOD GR G3 G4
    cases cv
    · skip
      go_wp2_with fail
      refine (GS.out).mono ?_
      rintro e w9 ⟨rfl, b9⟩
      replace hB := hB.trans (b9.mono hB.size)
      clear b9
      go_wp2_with fail
      refine (G5.out _ hB).mono ?_
      rintro e w9 ⟨rfl, b9⟩
      replace hB := hB.trans (b9.mono hB.size)
      clear b9
      go_wp2_with fail
      refine (G6.out _ hB).mono ?_
      rintro e w9 ⟨rfl, b9⟩
      replace hB := hB.trans (b9.mono hB.size)
      clear b9
      go_wp2
      go_ret
      exact ⟨rfl, hB⟩
    · skip
      go_wp2_with fail
      refine (GS.out).mono ?_
      rintro e w9 ⟨rfl, b9⟩
      replace hB := hB.trans (b9.mono hB.size)
      clear b9
      go_wp2_with fail
      refine (G5.out _ hB).mono ?_
      rintro e w9 ⟨rfl, b9⟩
      replace hB := hB.trans (b9.mono hB.size)
      clear b9
      go_wp2_with fail
      refine (G6.out _ hB).mono ?_
      rintro e w9 ⟨rfl, b9⟩
      replace hB := hB.trans (b9.mono hB.size)
      clear b9
      go_wp2
      go_ret
      exact ⟨rfl, hB⟩
  · skip
    go_wp2_with fail
    refine (GS.out).mono ?_
    rintro e w9 ⟨rfl, b9⟩
    replace hB := hB.trans (b9.mono hB.size)
    clear b9
    clear GS
    go_wp2_with fail
    refine (G3.out _ hB).mono ?_
    rintro e wC ⟨vC, sC, rfl, hNC, hOC⟩
    have HNC := hide' hNC
    have HOC := hide' hOC
    have bC := hOC.2
    replace hB := hB.trans (bC.mono hB.size)
    clear hNC hOC
    go_wp2_with fail
    refine (G4.out _ hB).mono ?_
    rintro e wD ⟨vD, sD, rfl, hND, hOD⟩
    have HND := hide' hND
    have HOD := hide' hOD
    have bD := hOD.2
    replace hB := hB.trans (bD.mono hB.size)
    clear hND hOD
    have GS := hide' (GR.out _ _ _ _ _ _ _ HNC.out HND.out (HOC.out.later bD) HOD.out)
    clear bC bD HNC HND HOC HOD GR G3 G4
    cases cv
    · skip
      go_wp2_with fail
      refine (GS.out).mono ?_
      rintro e w9 ⟨rfl, b9⟩
      replace hB := hB.trans (b9.mono hB.size)
      clear b9
      go_wp2_with fail
      refine (G5.out _ hB).mono ?_
      rintro e w9 ⟨rfl, b9⟩
      replace hB := hB.trans (b9.mono hB.size)
      clear b9
      go_wp2_with fail
      refine (G6.out _ hB).mono ?_
      rintro e w9 ⟨rfl, b9⟩
      replace hB := hB.trans (b9.mono hB.size)
      clear b9
      go_wp2
      go_ret
      exact ⟨rfl, hB⟩
    · skip
      go_wp2_with fail
      refine (GS.out).mono ?_
      rintro e w9 ⟨rfl, b9⟩
      replace hB := hB.trans (b9.mono hB.size)
      clear b9
      go_wp2_with fail
      refine (G5.out _ hB).mono ?_
      rintro e w9 ⟨rfl, b9⟩
      replace hB := hB.trans (b9.mono hB.size)
      clear b9
      go_wp2_with fail
      refine (G6.out _ hB).mono ?_
      rintro e w9 ⟨rfl, b9⟩
      replace hB := hB.trans (b9.mono hB.size)
      clear b9
      go_wp2
      go_ret
      exact ⟨rfl, hB⟩
end Go.Proofs.Ytnjidhoceacenaa
namespace Go.Proofs.Ytnjidhoceacenaa.clausesReckon
open Go.ChangeShapes Go.WideShapes Go.ChangeAt Go.RowKit Go.Proofs.Ytnjidhoceacenaa
set_option linter.unusedVariables false
set_option linter.unusedSimpArgs false
theorem walk (a : Option Addr) (n c : Nat) (g : Nat → Int) (a' : Option Addr) (n' c' : Nat) (g' : Nat → Int) (x : Int) (w : World) (h : LitsAt w a n g) (hc : n ≤ c) (hn : n ≤ 1048576) (h' : LitsAt w a' n' g') (hc' : n' ≤ c') (hn' : n' ≤ 1048576) (hx : -9223372036854775808 ≤ x) (hx' : x ≤ 9223372036854775807) :
    Calls Try.prog 3 #[.slice a n c, .slice a' n' c', .int .i64 x] w fun e w' => e = .returned (.bool true) ∧ Below w.heap.size w w' :=
  reckon_walk a n c g a' n' c' g' x w h h' ⟨hx, hx'⟩ (by omega) (by omega)
set_option maxRecDepth 100000 in
theorem contract (H : Type) (enc : TypeId × Value → H) (W : World) (base : Nat) (args : Array Value) (ds gs : List (DataW H)) (before : List MemPlace)
    (hval : ∀ (j : Nat) t v, Try.f3.params[j]? = some t → args[j]? = some v → Value.okWide Try.prog W .any base t v)
    (hW : DataW.Whole enc Try.prog Try.f3.params.toList Rows.clausesReckonSpec.vars false W args.toList ds gs before)
    (hsz : (DataW.weightsEach Try.prog (Try.f3.params.toList ++ Rows.clausesReckonSpec.plain.varTypes Try.prog) (ds ++ gs)).all (· ≤ reachBytes) = true) (hk : Rows.uptoSmall H (ds ++ gs) = true) :
    Calls Try.prog 3 args W fun e W' => ∃ v, e = .returned v ∧ Rows.clausesReckonSpec.post enc Try.prog Try.f3 false true false false W args v W' := by
  have hW' := hW
  obtain ⟨p, q, hA0, hV, rfl, hfz, hnd⟩ := hW
  have hA : DataW.TrodAll enc Try.prog W 0 (fun _ => true) true Try.f3.params.toList args.toList ds p := hA0
  rw [Try.params3] at hA hval hsz
  obtain ⟨v0, vs0, d0, ds0, p0, q0, hargs, rfl, rfl, h0, r0⟩ := trodAll_cons hA
  obtain ⟨v1, vs1, d1, ds1, p1, q1, rfl, rfl, rfl, h1, r1⟩ := trodAll_cons r0
  obtain ⟨v2, vs2, d2, ds2, p2, q2, rfl, rfl, rfl, h2, r2⟩ := trodAll_cons r1
  obtain ⟨rfl, rfl, rfl⟩ := trodAll_nil r2
  obtain rfl : args = #[v0, v1, v2] := by cases args; simp_all
  obtain ⟨rfl, rfl⟩ := trodVars_none hV
  have lt0 : ∀ x ∈ p0, x.block < W.heap.size := by obtain ⟨m, hm⟩ := h0; exact DataW.trod_lt m _ _ _ hm
  obtain ⟨ca0, cn0, cc0, rfl⟩ := okWide_slice Try.underlying23 (hval 0 23 v0 rfl rfl)
  obtain ⟨cf0, hC0, hCc0, hCu0⟩ := open_Cla h0
  have lt1 : ∀ x ∈ p1, x.block < W.heap.size := by obtain ⟨m, hm⟩ := h1; exact DataW.trod_lt m _ _ _ hm
  obtain ⟨ca1, cn1, cc1, rfl⟩ := okWide_slice Try.underlying23 (hval 1 23 v1 rfl rfl)
  obtain ⟨cf1, hC1, hCc1, hCu1⟩ := open_Cla h1
  obtain ⟨z2, rfl, rfl, rfl, w2⟩ := open_int Try.underlying3 (hval 2 3 v2 rfl rfl) h2
  have bz2 := bounds_i64 w2
  clear hA0
  have hbulk := of_decide_eq_true hk
  simp only [List.append_nil, Rows.uptoBulkAll] at hbulk
  simp only [List.append_nil] at hW'
  refine (walk ca0 cn0 cc0 cf0 ca1 cn1 cc1 cf1 z2 W hC0 hCc0 (by omega) hC1 hCc1 (by omega) (by omega) (by omega)).mono fun e W' ⟨he, bel⟩ => ?_
  subst he
  exact ⟨_, rfl, _, _, _, [], _, [], hW', trodAll_mk1 (shut_bool Try.underlying4 _), (trodAll_cons_mk (Below.trod laidOut (by kernel_rfl) (of_decide_eq_true (by kernel_rfl)) h0 bel lt0) (trodAll_cons_mk (Below.trod laidOut (by kernel_rfl) (of_decide_eq_true (by kernel_rfl)) h1 bel lt1) (trodAll_cons_mk (shut_int Try.underlying3 w2) trodAll_mk0))), rfl, bel.frame _, fun h => by cases h⟩

set_option maxRecDepth 100000 in
theorem lifted (os : Os) (started : os.Started) (H : Type) (enc : TypeId × Value → H) (F : Stop.Interp) :
    ReturnsInHanded {} Try.checked os 3 .any ((Rows.OpenSpec.upto Rows.clausesReckonSpec).pre6 enc Try.prog Try.f3 Rows.clausesReckonUptoRow.domain false) (((Rows.OpenSpec.upto Rows.clausesReckonSpec).at F).post enc Try.prog Try.f3 false true false false) := by
  refine returnsInHanded_of_cond_sized (C := Try.checked) (s := Rows.OpenSpec.upto Rows.clausesReckonSpec) (k := Rows.uptoSmall) rfl own started (by kernel_rfl) Try.func3
    (OpenSpec.witness (enc := enc) (C := Try.checked) (s := Rows.OpenSpec.upto Rows.clausesReckonSpec) (k := Rows.uptoSmall) rfl false ⟨#[], #[.slice none 0 0, .slice none 0 0, .int .i64 0], []⟩ 8 (by kernel_rfl) (by kernel_rfl) (by kernel_rfl)
      (x := ([.nil, .nil, .lit (.int .i64 0)], [], [])) (by kernel_rfl) rfl (by kernel_rfl)) ?_
  intro W base args ds gs before hval hW _ hk hsz _
  exact contract H enc W base args ds gs before hval hW hsz hk

theorem over : Rows.clausesReckonUptoRow.holds Try.pinned (Rows.OpenSpec.upto Rows.clausesReckonSpec) :=
  OpenClaim.holds_of_cond 3 Try.f3 rfl rfl rfl rfl rfl rfl rfl ⟨rfl, rfl, rfl, rfl, rfl⟩ rfl rfl rfl rfl rfl (by kernel_rfl) Try.func3 (by kernel_rfl)
    (of_decide_eq_true (by kernel_rfl)) (by unfold Func.isWrapper; first | (rw [if_pos (by decide +kernel)]; kernel_rfl) | (rw [if_neg (by decide +kernel)]; exact ⟨rfl, rfl⟩))
    (fun os started H enc _ F => lifted os started H enc F)

end Go.Proofs.Ytnjidhoceacenaa.clausesReckon
namespace Go.Proofs.Ytnjidhoceacenaa
theorem clausesReckon_holds : Rows.ClausesReckonUptoSaid := clausesReckon.over
#print axioms clausesReckon_holds
end Go.Proofs.Ytnjidhoceacenaa
