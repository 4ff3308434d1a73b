/-
  DeltaSmalls.
-/
import Derived.Test.YtnifelfecildmaaGreatDoorWV8
import Derived.Test.YtnifelfecildmaaGreatDoorWG7
import Derived.Test.YtnifelfecildmaaGreatDoorOpenG
import Derived.Test.YtnifelfecildmaaGreatDoorOpenD
import Derived.Test.YtnifelfecildmaaGreatDoorCards
import Derived.Test.YtnifelfecildmaaGreatDoorTie
import Derived.Deep.DeepHandedRow
import Derived.Lib.LaidTab
namespace Go.Proofs.YtnifelfecildmaaGreatDoor.deltaSmalls
open Go.ChangeShapes Go.WideShapes Go.ChangeAt Go.RowKit Go.Proofs.YtnifelfecildmaaGreatDoor
set_option linter.unusedVariables false
set_option linter.unusedSimpArgs false

set_option maxHeartbeats 1000000 in
set_option maxRecDepth 30000 in
theorem none_is (w : World) : Calls Tryz.prog 11 #[.agg #[.bool false, .slice none 0 0, .slice none 0 0]] w fun e w' => e = .returned (.bool true) ∧ Below w.heap.size w w' := by
  go_enter Tryz.func11, Tryz.ntmps11
  go_wp2
  go_ret
  exact ⟨rfl, by first | exact below_alloc _ | exact (below_alloc _).drew | exact ((Below.refl _ _).alloc (Nat.le_refl _) _)⟩
set_option maxHeartbeats 8000000 in
set_option maxRecDepth 100000 in
theorem walkM (a : Option Addr) (n cap : Nat) (k : Nat → GapV) (w : World) (hA : GapsAt w a n k) (hok : ∀ i, i < n → (k i).ok w ∧ (k i).tiny) (hc : n ≤ cap) (hn : n ≤ 1048576) (hDg : Digits w) :
    Calls Tryz.prog 3 #[.slice a n cap] w fun e w' => e = .returned (.bool true) ∧ Below w.heap.size w w' := by
  have G1 := hide' (fun w' (hb : Below w.heap.size w w') => gaps_is a n cap k w' (hA.later hb) (fun i hi => ⟨(hok i hi).1.on hb, (hok i hi).2⟩) hc hn)
  have G2 := hide' (fun w' a' k' (hA' : GapsAt w' a' n k') (h' : ∀ i, i < n → (k' i).ok w' ∧ (k' i).tiny ∧ (k' i).val = (k i).val) => show Calls Tryz.prog 7 #[.slice a' n n] w' (fun e w1 => ((∀ i, i < n → ¬ badG (k i).val) ∧ ∃ p q, e = .returned (.tuple #[.agg #[.bool (ng (smallG (gl k n)).num), .slice p (ln (am (smallG (gl k n)).num)) (ln (am (smallG (gl k n)).num)), .slice q (ln (smallG (gl k n)).den) (ln (smallG (gl k n)).den)], .int .i64 0]) ∧ Below w'.heap.size w' w1 ∧ (nR (smallG (gl k n)) p q).ok w1) ∨ ((∃ i, i < n ∧ badG (k i).val) ∧ e = .returned (.tuple #[.agg #[.bool false, .slice none 0 0, .slice none 0 0], .int .i64 51]) ∧ Below w'.heap.size w' w1)) by
    have h := Small_is a' n n k' w' hA' (fun i hi => ⟨(h' i hi).1, (h' i hi).2.1⟩) (Nat.le_refl _) hn
    rw [gl_congr n fun i hi => (h' i hi).2.2] at h
    refine h.mono ?_
    rintro e w1 (⟨h1, h2⟩ | ⟨⟨i, hi, h1⟩, h2⟩)
    · exact Or.inl ⟨fun i hi hb => h1 i hi (by rw [(h' i hi).2.2]; exact hb), h2⟩
    · exact Or.inr ⟨⟨i, hi, by rw [← (h' i hi).2.2]; exact h1⟩, h2⟩)
  have G3 := hide' (fun w' (hb : Below w.heap.size w w') => vSmall_is a n cap k w' (hA.later hb) (fun i hi => ⟨(hok i hi).1.on hb, (hok i hi).2⟩) hc hn)
  have GL := hide' (fun w' (hb : Below w.heap.size w w') => lives_is w' (hDg.below hb))
  have sS : sz 8388622 (smallG (gl k n)) := small_sz n hok
  obtain ⟨S, hSe⟩ : ∃ S, smallG (gl k n) = S := ⟨_, rfl⟩
  rw [hSe] at G2 G3 sS
  have GE := hide' (fun w' p q p1 q1 (h : (nR S p q).ok w') (h8 : (nR S p1 q1).ok w') => SameQ_is S.num S.den p q p1 q1 w' (Nat.le_trans sS.1 (by omega)) (Nat.le_trans sS.2 (by omega)) h.1 h.2.2.2.1 h8.1 h8.2.2.2.1)
  clear hSe sS hA hok hDg
  go_enter Tryz.func3, Tryz.ntmps3
  go_wp2_with fail
  have hB : Below w.heap.size w w := Below.refl _ _
  refine (G1.out _ hB).mono ?_
  rintro e w1 ⟨a', k', rfl, b1, hA1, hk1⟩
  replace hB := hB.trans (b1.mono hB.size)
  clear b1
  go_wp2_with fail
  refine (G2.out _ a' k' hA1 hk1).mono ?_
  clear hA1 hk1 G1 G2
  rintro e w2 (⟨hgood, p, q, rfl, b2, hS⟩ | ⟨hbad, rfl, b2⟩)
  · skip
    replace hB := hB.trans (b2.mono hB.size)
    clear b2
    obtain ⟨w3, hwC⟩ : ∃ wC, w2.alloc (.cells #[.bool (ng S.num), .slice p (ln (am S.num)) (ln (am S.num)), .slice q (ln S.den) (ln S.den)] 28) = wC := ⟨_, rfl⟩
    have bC : Below w2.heap.size w2 w3 := by subst hwC; exact below_alloc _
    have y0 : w3.cell? ⟨w2.heap.size, 0, none⟩ = some (.bool (ng S.num)) := by subst hwC; go_simp
    have y1 : w3.cell? ⟨w2.heap.size, 1, none⟩ = some (.slice p (ln (am S.num)) (ln (am S.num))) := by subst hwC; go_simp
    have y2 : w3.cell? ⟨w2.heap.size, 2, none⟩ = some (.slice q (ln S.den) (ln S.den)) := by subst hwC; go_simp
    replace hS := hS.on bC
    replace hB := hB.trans (bC.mono hB.size)
    clear bC
    go_wp2_with fail
    clear hwC
    refine (G3.out _ hB).mono ?_
    rintro e w4 (⟨hgood2, p4, q4, rfl, b4, hS4⟩ | ⟨⟨i9, hi9, hb9⟩, rfl, b4⟩)
    · skip
      replace y0 := below_cell b4 y0
      replace y1 := below_cell b4 y1
      replace y2 := below_cell b4 y2
      replace hS := hS.on b4
      replace hB := hB.trans (b4.mono hB.size)
      clear b4
      obtain ⟨w5, hwC⟩ : ∃ wC, w4.alloc (.cells #[.bool (ng S.num), .slice p4 (ln (am S.num)) (ln (am S.num)), .slice q4 (ln S.den) (ln S.den)] 28) = wC := ⟨_, rfl⟩
      have bC : Below w4.heap.size w4 w5 := by subst hwC; exact below_alloc _
      have x0 : w5.cell? ⟨w4.heap.size, 0, none⟩ = some (.bool (ng S.num)) := by subst hwC; go_simp
      have x1 : w5.cell? ⟨w4.heap.size, 1, none⟩ = some (.slice p4 (ln (am S.num)) (ln (am S.num))) := by subst hwC; go_simp
      have x2 : w5.cell? ⟨w4.heap.size, 2, none⟩ = some (.slice q4 (ln S.den) (ln S.den)) := by subst hwC; go_simp
      replace y0 := below_cell bC y0
      replace y1 := below_cell bC y1
      replace y2 := below_cell bC y2
      replace hS := hS.on bC
      replace hS4 := hS4.on bC
      replace hB := hB.trans (bC.mono hB.size)
      clear bC
      go_wp2_with fail
      clear hwC
      refine (GE.out _ p q p4 q4 hS hS4).mono ?_
      rintro e w6 ⟨rfl, b6⟩
      replace hB := hB.trans (b6.mono hB.size)
      clear b6
      go_wp2_with fail
      refine (GL.out _ hB).mono ?_
      rintro e w7 ⟨rfl, b7⟩
      go_wp2
      go_ret
      exact ⟨rfl, hB.trans (b7.mono hB.size)⟩
    · exact absurd hb9 (hgood i9 hi9)
  · skip
    replace hB := hB.trans (b2.mono hB.size)
    clear b2
    go_upto_region 2 with fail
    obtain ⟨w3, hwC⟩ : ∃ wC, w2.alloc (.cells #[.bool false, .slice none 0 0, .slice none 0 0] 28) = wC := ⟨_, rfl⟩
    have bC : Below w2.heap.size w2 w3 := by subst hwC; exact below_alloc _
    have y0 : w3.cell? ⟨w2.heap.size, 0, none⟩ = some (.bool false) := by subst hwC; go_simp
    have y1 : w3.cell? ⟨w2.heap.size, 1, none⟩ = some (.slice none 0 0) := by subst hwC; go_simp
    have y2 : w3.cell? ⟨w2.heap.size, 2, none⟩ = some (.slice none 0 0) := by subst hwC; go_simp
    rw [hwC]
    clear hwC
    replace hB := hB.trans (bC.mono hB.size)
    clear bC
    obtain ⟨c3, hc3⟩ : ∃ c, w2.heap.size = c := ⟨_, rfl⟩
    rw [hc3] at y0 y1 y2 ⊢
    clear hc3
    go_wp2_with fail
    refine (G3.out _ hB).mono ?_
    rintro e w4 (⟨hgood2, p4, q4, rfl, b4, hS4⟩ | ⟨_, rfl, b4⟩)
    · obtain ⟨i9, hi9, hb9⟩ := hbad
      exact absurd hb9 (hgood2 i9 hi9)
    · skip
      replace y0 := below_cell b4 y0
      replace y1 := below_cell b4 y1
      replace y2 := below_cell b4 y2
      replace hB := hB.trans (b4.mono hB.size)
      clear b4
      go_upto_region 3 with fail
      obtain ⟨w5, hwC⟩ : ∃ wC, w4.alloc (.cells #[.bool false, .slice none 0 0, .slice none 0 0] 28) = wC := ⟨_, rfl⟩
      have bC : Below w4.heap.size w4 w5 := by subst hwC; exact below_alloc _
      rw [hwC]
      clear hwC
      replace y0 := below_cell bC y0
      replace y1 := below_cell bC y1
      replace y2 := below_cell bC y2
      replace hB := hB.trans (bC.mono hB.size)
      clear bC
      go_wp2_with fail
      refine (none_is _).mono ?_
      rintro e w6 ⟨rfl, b6⟩
      replace hB := hB.trans (b6.mono hB.size)
      clear b6
      go_wp2_with fail
      refine (GL.out _ hB).mono ?_
      rintro e w7 ⟨rfl, b7⟩
      go_wp2
      go_ret
      exact ⟨rfl, hB.trans (b7.mono hB.size)⟩
theorem walk (a : Option Addr) (n cap : Nat) (k : Nat → GapV) (w : World) (hA : GapsAt w a n k) (hok : ∀ i, i < n → (k i).ok w) (hc : n ≤ cap) (hb : bulkG k n ≤ 1048576) (hDg : Digits w) :
    Calls Tryz.prog 3 #[.slice a n cap] w fun e w' => e = .returned (.bool true) ∧ Below w.heap.size w w' :=
  walkM a n cap k w hA (fun i hi => ⟨hok i hi, bulkG_tiny hb hi⟩) hc (by have := bulkG_n (k := k) n; omega) hDg

theorem gTab : Tryz.prog.globalNamed "fulcrum/nat.digits" = some 3 := by kernel_rfl
theorem gTabType : (Tryz.prog.globals[3]?).map (·.type) = some 174 := by kernel_rfl
theorem cellsA : Tryz.prog.cellsOf 174 = 16 := by kernel_rfl
theorem cells8 : Tryz.prog.cellsOf 5 = 1 := by kernel_rfl
theorem table {W : World} (h : laidMetH Tryz.prog Rows.deltaSmallsUptoRow.laid W) : Lib.TabIs Tryz.prog W "fulcrum/nat.digits" .u8 [48, 49, 50, 51, 52, 53, 54, 55, 56, 57, 97, 98, 99, 100, 101, 102] :=
  Lib.tabIs_of_head (rest := [("unicode/utf8.acceptRanges", Rows.laid_unicode_utf8_acceptRanges), ("unicode/utf8.first", Rows.laid_unicode_utf8_first)]) gTab gTabType Tryz.underlying174 Tryz.underlying5 cells8 cellsA h
theorem digits_of {W : World} (h : laidMetH Tryz.prog Rows.deltaSmallsUptoRow.laid W) : Digits W :=
  ⟨(table h).cell gTab 0 (by decide), (table h).cell gTab 1 (by decide), (table h).cell gTab 2 (by decide), (table h).cell gTab 3 (by decide), (table h).cell gTab 4 (by decide)⟩

set_option maxRecDepth 100000 in
theorem contract (H : Type) (enc : TypeId × Value → H) (W : World) (base : Nat) (args : Array Value) (ds gs : List (DataW H)) (before : List MemPlace)
    (hval : ∀ (j : Nat) t v, Tryz.f3.params[j]? = some t → args[j]? = some v → Value.okWide Tryz.prog W .any base t v)
    (hW : DataW.Whole enc Tryz.prog Tryz.f3.params.toList Rows.deltaSmallsSpec.vars false W args.toList ds gs before)
    (hsz : (DataW.weightsEach Tryz.prog (Tryz.f3.params.toList ++ Rows.deltaSmallsSpec.plain.varTypes Tryz.prog) (ds ++ gs)).all (· ≤ reachBytes) = true) (hk : Rows.uptoSmall H (ds ++ gs) = true) (hL : laidMetH Tryz.prog Rows.deltaSmallsUptoRow.laid W) :
    Calls Tryz.prog 3 args W fun e W' => ∃ v, e = .returned v ∧ Rows.deltaSmallsSpec.post enc Tryz.prog Tryz.f3 false true false false W args v W' := by
  have hW' := hW
  obtain ⟨p, q, hA0, hV, rfl, hfz, hnd⟩ := hW
  have hA : DataW.TrodAll enc Tryz.prog W 0 (fun _ => true) true Tryz.f3.params.toList args.toList ds p := hA0
  rw [Tryz.params3] at hA hval hsz
  obtain ⟨v0, vs0, d0, ds0, p0, q0, hargs, rfl, rfl, h0, r0⟩ := trodAll_cons hA
  obtain ⟨rfl, rfl, rfl⟩ := trodAll_nil r0
  obtain rfl : args = #[v0] := by cases args; simp_all
  obtain ⟨rfl, rfl⟩ := trodVars_none hV
  have lt0 : ∀ x ∈ p0, x.block < W.heap.size := by obtain ⟨m, hm⟩ := h0; exact DataW.trod_lt m _ _ _ hm
  obtain ⟨xa0, xl0, xc0, rfl⟩ := okWide_slice Tryz.underlying22 (hval 0 22 v0 rfl rfl)
  obtain ⟨fu0, hm0⟩ := id h0
  obtain ⟨fa0, fn0, fc0, ff0, hcs0, hF0, hfo0, hfc0, hfz0, hfu0⟩ := open_Gaps hm0 (sized_at 0 hsz rfl rfl)
  simp [Value.cells] at hcs0
  obtain ⟨rfl, rfl, rfl⟩ := hcs0
  clear hA0
  have hbulk := of_decide_eq_true hk
  simp only [List.append_nil, Rows.uptoBulkAll] at hbulk
  simp only [List.append_nil] at hW'
  refine (walk xa0 xl0 xc0 ff0 W hF0 hfo0 hfc0 (by omega) (digits_of hL)).mono fun e W' ⟨he, bel⟩ => ?_
  subst he
  exact ⟨_, rfl, _, _, _, [], _, [], hW', trodAll_mk1 (shut_bool Tryz.underlying4 _), (trodAll_cons_mk (Below.trod laidOut (by kernel_rfl) (of_decide_eq_true (by kernel_rfl)) h0 bel lt0) trodAll_mk0), rfl, bel.frame _, fun h => by cases h⟩

def setCells (cs : Array Value) : Obj → Obj
  | .cells _ t frozen => .cells cs t frozen
  | o => o
set_option maxRecDepth 100000 in
noncomputable def laidWorld (os : Os) : World :=
  { World.holding Tryz.prog os ⟨#[], #[], []⟩ with heap := ((((World.holding Tryz.prog os ⟨#[], #[], []⟩).heap.modify 3 (setCells #[.int .u8 48, .int .u8 49, .int .u8 50, .int .u8 51, .int .u8 52, .int .u8 53, .int .u8 54, .int .u8 55, .int .u8 56, .int .u8 57, .int .u8 97, .int .u8 98, .int .u8 99, .int .u8 100, .int .u8 101, .int .u8 102])).modify 2 (setCells #[.int .u8 128, .int .u8 191, .int .u8 160, .int .u8 191, .int .u8 128, .int .u8 159, .int .u8 144, .int .u8 191, .int .u8 128, .int .u8 143, .int .u8 0, .int .u8 0, .int .u8 0, .int .u8 0, .int .u8 0, .int .u8 0, .int .u8 0, .int .u8 0, .int .u8 0, .int .u8 0, .int .u8 0, .int .u8 0, .int .u8 0, .int .u8 0, .int .u8 0, .int .u8 0, .int .u8 0, .int .u8 0, .int .u8 0, .int .u8 0, .int .u8 0, .int .u8 0])).modify 1 (setCells #[.int .u8 240, .int .u8 240, .int .u8 240, .int .u8 240, .int .u8 240, .int .u8 240, .int .u8 240, .int .u8 240, .int .u8 240, .int .u8 240, .int .u8 240, .int .u8 240, .int .u8 240, .int .u8 240, .int .u8 240, .int .u8 240, .int .u8 240, .int .u8 240, .int .u8 240, .int .u8 240, .int .u8 240, .int .u8 240, .int .u8 240, .int .u8 240, .int .u8 240, .int .u8 240, .int .u8 240, .int .u8 240, .int .u8 240, .int .u8 240, .int .u8 240, .int .u8 240, .int .u8 240, .int .u8 240, .int .u8 240, .int .u8 240, .int .u8 240, .int .u8 240, .int .u8 240, .int .u8 240, .int .u8 240, .int .u8 240, .int .u8 240, .int .u8 240, .int .u8 240, .int .u8 240, .int .u8 240, .int .u8 240, .int .u8 240, .int .u8 240, .int .u8 240, .int .u8 240, .int .u8 240, .int .u8 240, .int .u8 240, .int .u8 240, .int .u8 240, .int .u8 240, .int .u8 240, .int .u8 240, .int .u8 240, .int .u8 240, .int .u8 240, .int .u8 240, .int .u8 240, .int .u8 240, .int .u8 240, .int .u8 240, .int .u8 240, .int .u8 240, .int .u8 240, .int .u8 240, .int .u8 240, .int .u8 240, .int .u8 240, .int .u8 240, .int .u8 240, .int .u8 240, .int .u8 240, .int .u8 240, .int .u8 240, .int .u8 240, .int .u8 240, .int .u8 240, .int .u8 240, .int .u8 240, .int .u8 240, .int .u8 240, .int .u8 240, .int .u8 240, .int .u8 240, .int .u8 240, .int .u8 240, .int .u8 240, .int .u8 240, .int .u8 240, .int .u8 240, .int .u8 240, .int .u8 240, .int .u8 240, .int .u8 240, .int .u8 240, .int .u8 240, .int .u8 240, .int .u8 240, .int .u8 240, .int .u8 240, .int .u8 240, .int .u8 240, .int .u8 240, .int .u8 240, .int .u8 240, .int .u8 240, .int .u8 240, .int .u8 240, .int .u8 240, .int .u8 240, .int .u8 240, .int .u8 240, .int .u8 240, .int .u8 240, .int .u8 240, .int .u8 240, .int .u8 240, .int .u8 240, .int .u8 240, .int .u8 240, .int .u8 240, .int .u8 241, .int .u8 241, .int .u8 241, .int .u8 241, .int .u8 241, .int .u8 241, .int .u8 241, .int .u8 241, .int .u8 241, .int .u8 241, .int .u8 241, .int .u8 241, .int .u8 241, .int .u8 241, .int .u8 241, .int .u8 241, .int .u8 241, .int .u8 241, .int .u8 241, .int .u8 241, .int .u8 241, .int .u8 241, .int .u8 241, .int .u8 241, .int .u8 241, .int .u8 241, .int .u8 241, .int .u8 241, .int .u8 241, .int .u8 241, .int .u8 241, .int .u8 241, .int .u8 241, .int .u8 241, .int .u8 241, .int .u8 241, .int .u8 241, .int .u8 241, .int .u8 241, .int .u8 241, .int .u8 241, .int .u8 241, .int .u8 241, .int .u8 241, .int .u8 241, .int .u8 241, .int .u8 241, .int .u8 241, .int .u8 241, .int .u8 241, .int .u8 241, .int .u8 241, .int .u8 241, .int .u8 241, .int .u8 241, .int .u8 241, .int .u8 241, .int .u8 241, .int .u8 241, .int .u8 241, .int .u8 241, .int .u8 241, .int .u8 241, .int .u8 241, .int .u8 241, .int .u8 241, .int .u8 2, .int .u8 2, .int .u8 2, .int .u8 2, .int .u8 2, .int .u8 2, .int .u8 2, .int .u8 2, .int .u8 2, .int .u8 2, .int .u8 2, .int .u8 2, .int .u8 2, .int .u8 2, .int .u8 2, .int .u8 2, .int .u8 2, .int .u8 2, .int .u8 2, .int .u8 2, .int .u8 2, .int .u8 2, .int .u8 2, .int .u8 2, .int .u8 2, .int .u8 2, .int .u8 2, .int .u8 2, .int .u8 2, .int .u8 2, .int .u8 19, .int .u8 3, .int .u8 3, .int .u8 3, .int .u8 3, .int .u8 3, .int .u8 3, .int .u8 3, .int .u8 3, .int .u8 3, .int .u8 3, .int .u8 3, .int .u8 3, .int .u8 35, .int .u8 3, .int .u8 3, .int .u8 52, .int .u8 4, .int .u8 4, .int .u8 4, .int .u8 68, .int .u8 241, .int .u8 241, .int .u8 241, .int .u8 241, .int .u8 241, .int .u8 241, .int .u8 241, .int .u8 241, .int .u8 241, .int .u8 241, .int .u8 241])) }
set_option maxRecDepth 100000 in
theorem laid_met (os : Os) : laidMet Tryz.prog Rows.deltaSmallsUptoRow.laid ((laidWorld os).forCall (fun _ _ => 0) ⟨#[], #[.slice none 0 0], []⟩).memory :=
  laidMet_of_run' 8 (by kernel_rfl) (by kernel_rfl)
theorem reads (os : Os) {H : Type} (enc : TypeId × Value → H) : ∃ places, DataW.whole enc Tryz.prog ((laidWorld os).forCall (fun _ _ => 0) ⟨#[], #[.slice none 0 0], []⟩).memory Tryz.f3.params.toList Rows.deltaSmallsSpec.vars false [Value.slice none 0 0] 8 = some ([.nil], [], places) :=
  ⟨[], by kernel_rfl⟩

set_option maxRecDepth 100000 in
theorem liftedUpto (os : Os) (started : os.Started) (H : Type) (enc : TypeId × Value → H) (F : Stop.Interp) :
    ReturnsInHanded {} Tryz.checked os 3 .any ((Rows.OpenSpec.upto Rows.deltaSmallsSpec).preRow enc Tryz.prog Tryz.f3 Rows.deltaSmallsUptoRow.domain false Rows.deltaSmallsUptoRow.laid) (((Rows.OpenSpec.upto Rows.deltaSmallsSpec).at F).post enc Tryz.prog Tryz.f3 false true false false) := by
  obtain ⟨places, hx⟩ := reads os enc
  refine returnsInHanded_of_row (C := Tryz.checked) (s := Rows.OpenSpec.upto Rows.deltaSmallsSpec) own started (by kernel_rfl) Tryz.func3
    (witness_row_at (enc := enc) (C := Tryz.checked) false (laidWorld os) #[.slice none 0 0] rfl (by kernel_rfl) (by kernel_rfl) (by kernel_rfl)
      (OpenSpec.preRow_of_cond 8 hx (by kernel_rfl) (fun k hk => by cases hk; kernel_rfl) (by kernel_rfl) (laid_met os))) ?_
  intro W base args ds gs before hval hW _ hk hsz hL _ _
  exact contract H enc W base args ds gs before hval hW hsz (hk _ rfl) hL

theorem saidUpto : Rows.DeltaSmallsUptoSaid :=
  OpenClaim.holds_of_cond 3 Tryz.f3 rfl rfl rfl rfl rfl rfl rfl ⟨rfl, rfl, rfl, rfl, rfl⟩ rfl rfl rfl rfl rfl (by kernel_rfl) Tryz.func3 (by kernel_rfl)
    (of_decide_eq_true (by kernel_rfl)) (by unfold Func.isWrapper; first | (rw [if_pos (by decide +kernel)]; kernel_rfl) | (rw [if_neg (by decide +kernel)]; exact ⟨rfl, rfl⟩))
    (fun os started H enc _ F => by rw [OpenClaim.pre_eq_preRow]; exact liftedUpto os started H enc F)

theorem plain (f : FuncId) (fn : Func) (hf : Tryz.pinned.checked.prog.funcNamed "fulcrum/fulcrumlaw05.DeltaSmalls" = some f) (hfn : Tryz.pinned.checked.prog.funcs[f]? = some fn) :
    false = Tryz.pinned.checked.prog.looks [] ∧ ∀ (j : Nat) t, fn.params[j]? = some t → Tryz.pinned.checked.prog.wantsStandIn t = false := by
  obtain rfl : f = 3 := Option.some.inj ((show Tryz.prog.funcNamed "fulcrum/fulcrumlaw05.DeltaSmalls" = some 3 by kernel_rfl).symm.trans hf) |>.symm
  obtain rfl : fn = Tryz.f3 := (Option.some.inj (Tryz.func3.symm.trans hfn)).symm
  refine ⟨by kernel_rfl, fun j t ht => ?_⟩
  rw [Tryz.params3] at ht
  have hm := Array.mem_of_getElem? ht
  simp only [List.mem_toArray, List.mem_cons, List.not_mem_nil, or_false] at hm
  subst hm
  · exact (show Tryz.prog.wantsStandIn 22 = false by kernel_rfl)

theorem cardUpto : Rows.DeltaSmallsUptoCardSaid :=
  Claim7.holds_tied_plain_at .later [] _ _ _ _ saidUpto (fun _ h => by cases h) (by kernel_rfl) (fun _ h => by cases h) deltaSmallsUpto_row_tie rfl ⟨rfl, rfl⟩ (by kernel_rfl) rfl plain (by kernel_rfl)
end Go.Proofs.YtnifelfecildmaaGreatDoor.deltaSmalls
namespace Go.Proofs.YtnifelfecildmaaGreatDoor
theorem deltaSmalls_holds : Rows.DeltaSmallsUptoCardSaid := deltaSmalls.cardUpto
#print axioms deltaSmalls_holds
end Go.Proofs.YtnifelfecildmaaGreatDoor
