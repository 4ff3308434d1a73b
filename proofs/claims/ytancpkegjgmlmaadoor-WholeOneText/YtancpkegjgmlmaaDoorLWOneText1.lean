/-
  WholeOneText.
-/
import Derived.Test.YtancpkegjgmlmaaDoorWU4
import Derived.Test.YtancpkegjgmlmaaDoorWUA
import Derived.Test.YtancpkegjgmlmaaDoorWI6
import Derived.Test.YtancpkegjgmlmaaDoorOpen
import Derived.Test.YtancpkegjgmlmaaDoorCards
import Derived.Test.YtancpkegjgmlmaaDoorTie
import Derived.Deep.DeepHandedRow
import Derived.Lib.LaidTab
import Derived.ChangeMaps5
namespace Go.Proofs.YtancpkegjgmlmaaDoor.wholeOneText
open Go.ChangeShapes Go.WideShapes Go.ChangeAt Go.RowKit Go.Proofs.YtancpkegjgmlmaaDoor
set_option linter.unusedVariables false

theorem one_tx : isTz false 1 ⟨#[49]⟩ := ⟨⟨#[49]⟩, ⟨by decide, by decide, .inl rfl, fun j hj => by
  have : j = 0 := by have : j < 1 := hj; omega
  subst this
  decide +kernel⟩, by rw [if_neg (by simp)]⟩
set_option maxHeartbeats 4000000 in
set_option maxRecDepth 100000 in
theorem walk (s : ByteArray) (w : World) (hs : s.size ≤ 140737488351232) (h : Digs w) : Calls Tryd.prog 5 #[.string s] w fun e w' => e = .returned (.bool true) ∧ Below w.heap.size w w' := by
  have HH := hide' h
  have hl1 : ln 1 = 1 := ln_one
  have P1 : ∀ w', Calls Tryd.prog 15 #[] w' fun e w'' => ∃ a, e = .returned (.agg #[.bool false, .slice a 1 1]) ∧ New w' w'' a 1 1 := fun w' => by
    have := one_is w'
    rw [show ng 1 = false from rfl, show am 1 = 1 from rfl, ln_one] at this
    exact this
  have H1 := hide' P1
  clear P1 h
  go_enter Tryd.func5, Tryd.ntmps5
  go_wp2_with fail
  refine (wParse_any s w HH.out (by omega)).mono ?_
  rintro e w1 (⟨t, V, a1, rfl, h1, hz, hl⟩ | ⟨rfl, b1⟩)
  · have b1 := h1.below
    have ba := below_alloc (w := w1) (.cells #[.bool t, .slice a1 (ln V) (ln V)] 25)
    have bel := b1.trans (ba.mono b1.size)
    have g1 := segL ba h1.seg
    have hD : V < 10 ^ s.size := by
      obtain ⟨y, hy, e⟩ := hz
      refine Nat.lt_of_lt_of_le hy.2.1 (Nat.pow_le_pow_right (by omega) ?_)
      rw [e]
      split
      · rw [ByteArray.size_append]; omega
      · exact Nat.le_refl _
    have hlV : ln V ≤ s.size / 8 + 1 := ln_le_of_lt (Nat.lt_trans hD (lt8 (by omega)))
    have HT := hide' (wText_dig t a1 (ln V) (ln V) V s.size _ (HH.out.below bel) (Nat.le_refl _) (by omega) (by omega) hD g1)
    clear hD
    have HZ := hide' hz
    have ht2 : (s.toList == s.toList) = true := by simp
    clear hz
    go_wp2_with fail
    refine HT.out.mono ?_
    rintro e w2 ⟨u, rfl, hu, b2⟩
    obtain rfl := isTz.uniq hu HZ.out
    go_wp2
    go_ret
    exact ⟨by first | rfl | simp, bel.trans (b2.mono bel.size)⟩
  · have ba := below_alloc (w := w1) (.cells #[.bool false, .slice none 0 0] 25)
    have bel := b1.trans (ba.mono b1.size)
    have h49 : ((⟨#[49]⟩ : ByteArray).toList == (⟨#[49]⟩ : ByteArray).toList) = true := by simp
    go_wp2_with fail
    refine (H1.out _).mono ?_
    rintro e w2 ⟨a2, rfl, h2⟩
    have bel2 := bel.trans (h2.below.mono bel.size)
    have HT := hide' (wText_any false a2 1 1 1 w2 (HH.out.below bel2) (Nat.le_refl _) (by omega) h2.seg)
    go_wp2_with fail
    refine HT.out.mono ?_
    rintro e w3 ⟨u, rfl, hu, b3⟩
    obtain rfl := isTz.uniq hu one_tx
    go_wp2
    go_ret
    exact ⟨by first | rfl | simp, bel2.trans (b3.mono bel2.size)⟩

theorem gTab : Tryd.prog.globalNamed "fulcrum/nat.digits" = some 0 := by kernel_rfl
theorem gTabType : (Tryd.prog.globals[0]?).map (·.type) = some 72 := by kernel_rfl
theorem cellsA : Tryd.prog.cellsOf 72 = 16 := by kernel_rfl
theorem cells8 : Tryd.prog.cellsOf 5 = 1 := by kernel_rfl
theorem table {W : World} (h : laidMetH Tryd.prog Rows.wholeOneTextRow.laid W) : Lib.TabIs Tryd.prog W "fulcrum/nat.digits" .u8 [48, 49, 50, 51, 52, 53, 54, 55, 56, 57, 97, 98, 99, 100, 101, 102] :=
  Lib.tabIs_of_head (rest := []) gTab gTabType Tryd.underlying72 Tryd.underlying5 cells8 cellsA h
theorem digs_of {W : World} (h : laidMetH Tryd.prog Rows.wholeOneTextRow.laid W) : Digs W
  | 0, _ => (table h).cell gTab 0 (by decide)
  | 1, _ => (table h).cell gTab 1 (by decide)
  | 2, _ => (table h).cell gTab 2 (by decide)
  | 3, _ => (table h).cell gTab 3 (by decide)
  | 4, _ => (table h).cell gTab 4 (by decide)
  | 5, _ => (table h).cell gTab 5 (by decide)
  | 6, _ => (table h).cell gTab 6 (by decide)
  | 7, _ => (table h).cell gTab 7 (by decide)
  | 8, _ => (table h).cell gTab 8 (by decide)
  | 9, _ => (table h).cell gTab 9 (by decide)
  | 10, _ => (table h).cell gTab 10 (by decide)
  | 11, _ => (table h).cell gTab 11 (by decide)
  | 12, _ => (table h).cell gTab 12 (by decide)
  | 13, _ => (table h).cell gTab 13 (by decide)
  | 14, _ => (table h).cell gTab 14 (by decide)
  | 15, _ => (table h).cell gTab 15 (by decide)
  | k + 16, hk => absurd hk (by omega)

set_option maxRecDepth 100000 in
theorem contract (H : Type) (enc : TypeId × Value → H) (W : World) (base : Nat) (args : Array Value) (ds gs : List (DataW H)) (before : List MemPlace)
    (hval : ∀ (j : Nat) t v, Tryd.f5.params[j]? = some t → args[j]? = some v → Value.okWide Tryd.prog W .any base t v)
    (hW : DataW.Whole enc Tryd.prog Tryd.f5.params.toList Rows.wholeOneTextSpec.vars false W args.toList ds gs before)
    (hsz : (DataW.weightsEach Tryd.prog (Tryd.f5.params.toList ++ Rows.wholeOneTextSpec.plain.varTypes Tryd.prog) (ds ++ gs)).all (· ≤ reachBytes) = true) (hL : laidMetH Tryd.prog Rows.wholeOneTextRow.laid W) :
    Calls Tryd.prog 5 args W fun e W' => ∃ v, e = .returned v ∧ Rows.wholeOneTextSpec.post enc Tryd.prog Tryd.f5 false true false false W args v W' := by
  have hW' := hW
  obtain ⟨p, q, hA0, hV, rfl, hfz, hnd⟩ := hW
  have hA : DataW.TrodAll enc Tryd.prog W 0 (fun _ => true) true Tryd.f5.params.toList args.toList ds p := hA0
  rw [Tryd.params5] at hA hval hsz
  obtain ⟨v0, vs0, d0, ds0, p0, q0, hargs, rfl, rfl, h0, r0⟩ := trodAll_cons hA
  obtain ⟨rfl, rfl, rfl⟩ := trodAll_nil r0
  obtain rfl : args = #[v0] := by cases args; simp_all
  obtain ⟨rfl, rfl⟩ := trodVars_none hV
  obtain ⟨n0, rfl, rfl, rfl, w0⟩ := Go.ChangeMaps.open_string Tryd.underlying9 (hval 0 9 v0 rfl rfl) h0
  have sz0 : n0.size = n0.data.toList.length := by rw [Array.length_toList]; rfl
  have ss0 := sized_string hsz (j := 0) (t := 9) rfl rfl
  rw [show reachBytes = 140737488351232 from rfl] at ss0
  clear hA0
  simp only [List.append_nil] at hW'
  refine (walk n0 W (by omega) (digs_of hL)).mono fun e W' ⟨he, bel⟩ => ?_
  subst he
  exact ⟨_, rfl, _, _, _, [], _, [], hW', trodAll_mk1 (shut_bool Tryd.underlying4 _), (trodAll_cons_mk (Go.ChangeMaps.shut_string Tryd.underlying9 w0) trodAll_mk0), rfl, bel.frame _, fun h => by cases h⟩

def setCells (cs : Array Value) : Obj → Obj
  | .cells _ t frozen => .cells cs t frozen
  | o => o
set_option maxRecDepth 100000 in
noncomputable def laidWorld (os : Os) : World :=
  { World.holding Tryd.prog os ⟨#[], #[], []⟩ with heap := ((World.holding Tryd.prog os ⟨#[], #[], []⟩).heap.modify 0 (setCells #[.int .u8 48, .int .u8 49, .int .u8 50, .int .u8 51, .int .u8 52, .int .u8 53, .int .u8 54, .int .u8 55, .int .u8 56, .int .u8 57, .int .u8 97, .int .u8 98, .int .u8 99, .int .u8 100, .int .u8 101, .int .u8 102])) }
set_option maxRecDepth 100000 in
theorem laid_met (os : Os) : laidMet Tryd.prog Rows.wholeOneTextRow.laid ((laidWorld os).forCall (fun _ _ => 0) ⟨#[], #[.string ByteArray.empty], []⟩).memory :=
  laidMet_of_run' 8 (by kernel_rfl) (by kernel_rfl)
theorem reads (os : Os) {H : Type} (enc : TypeId × Value → H) : ∃ places, DataW.whole enc Tryd.prog ((laidWorld os).forCall (fun _ _ => 0) ⟨#[], #[.string ByteArray.empty], []⟩).memory Tryd.f5.params.toList Rows.wholeOneTextSpec.vars false [Value.string ByteArray.empty] 8 = some ([.lit (.string [])], [], places) :=
  ⟨[], by kernel_rfl⟩

set_option maxRecDepth 100000 in
theorem liftedUpto (os : Os) (started : os.Started) (H : Type) (enc : TypeId × Value → H) (F : Stop.Interp) :
    ReturnsInHanded {} Tryd.checked os 5 .any ((OpenSpec.ofChange Rows.wholeOneTextSpec).preRow enc Tryd.prog Tryd.f5 Rows.wholeOneTextRow.domain false Rows.wholeOneTextRow.laid) (((OpenSpec.ofChange Rows.wholeOneTextSpec).at F).post enc Tryd.prog Tryd.f5 false true false false) := by
  obtain ⟨places, hx⟩ := reads os enc
  refine returnsInHanded_of_row (C := Tryd.checked) (s := OpenSpec.ofChange Rows.wholeOneTextSpec) own started (by kernel_rfl) Tryd.func5
    (witness_row_at (enc := enc) (C := Tryd.checked) false (laidWorld os) #[.string ByteArray.empty] rfl (by kernel_rfl) (by kernel_rfl) (by kernel_rfl)
      (OpenSpec.preRow_of_cond 8 hx (by kernel_rfl) (fun k hk => by cases hk) (by kernel_rfl) (laid_met os))) ?_
  intro W base args ds gs before hval hW _ hk hsz hL _ _
  exact contract H enc W base args ds gs before hval hW hsz hL

theorem saidUpto : Rows.WholeOneTextSaid :=
  OpenClaim.holds_of_cond 5 Tryd.f5 rfl rfl rfl rfl rfl rfl rfl ⟨rfl, rfl, rfl, rfl, rfl⟩ rfl rfl rfl rfl rfl (by kernel_rfl) Tryd.func5 (by kernel_rfl)
    (of_decide_eq_true (by kernel_rfl)) (by unfold Func.isWrapper; first | (rw [if_pos (by decide +kernel)]; kernel_rfl) | (rw [if_neg (by decide +kernel)]; exact ⟨rfl, rfl⟩))
    (fun os started H enc _ F => by rw [OpenClaim.pre_eq_preRow]; exact liftedUpto os started H enc F)

theorem plain (f : FuncId) (fn : Func) (hf : Tryd.pinned.checked.prog.funcNamed "fulcrum/fulcrumlaw02.WholeOneText" = some f) (hfn : Tryd.pinned.checked.prog.funcs[f]? = some fn) :
    false = Tryd.pinned.checked.prog.looks [] ∧ ∀ (j : Nat) t, fn.params[j]? = some t → Tryd.pinned.checked.prog.wantsStandIn t = false := by
  obtain rfl : f = 5 := Option.some.inj ((show Tryd.prog.funcNamed "fulcrum/fulcrumlaw02.WholeOneText" = some 5 by kernel_rfl).symm.trans hf) |>.symm
  obtain rfl : fn = Tryd.f5 := (Option.some.inj (Tryd.func5.symm.trans hfn)).symm
  refine ⟨by kernel_rfl, fun j t ht => ?_⟩
  rw [Tryd.params5] at ht
  have hm := Array.mem_of_getElem? ht
  simp only [List.mem_toArray, List.mem_cons, List.not_mem_nil, or_false] at hm
  subst hm
  · exact (show Tryd.prog.wantsStandIn 9 = false by kernel_rfl)

theorem cardUpto : Rows.WholeOneTextCardSaid :=
  Claim7.holds_tied_plain_at .later [] _ _ _ _ saidUpto (fun _ h => by cases h) (by kernel_rfl) (fun _ h => by cases h) wholeOneText_row_tie rfl ⟨rfl, rfl⟩ (by kernel_rfl) rfl plain (by kernel_rfl)
end Go.Proofs.YtancpkegjgmlmaaDoor.wholeOneText
namespace Go.Proofs.YtancpkegjgmlmaaDoor
theorem wholeOneText_holds : Rows.WholeOneTextCardSaid := wholeOneText.cardUpto
#print axioms wholeOneText_holds
end Go.Proofs.YtancpkegjgmlmaaDoor
