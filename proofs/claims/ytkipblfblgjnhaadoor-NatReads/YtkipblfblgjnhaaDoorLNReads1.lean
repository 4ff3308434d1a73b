/-
  NatReads, the first form.
-/
import Derived.Test.YtkipblfblgjnhaaDoorWT6
import Derived.Test.YtkipblfblgjnhaaDoorWT7
import Derived.Test.YtkipblfblgjnhaaDoorW3
import Derived.Test.YtkipblfblgjnhaaDoorOpen
import Derived.Test.YtkipblfblgjnhaaDoorCards
import Derived.Test.YtkipblfblgjnhaaDoorTie
import Derived.Deep.DeepHandedRow
import Derived.Lib.LaidTab
import Derived.ChangeMaps5
namespace Go.Proofs.YtkipblfblgjnhaaDoor.natReads
open Go.ChangeShapes Go.WideShapes Go.ChangeAt Go.RowKit Go.Proofs.YtkipblfblgjnhaaDoor
set_option linter.unusedVariables false

theorem ff_is : isT 16 ⟨#[102, 102]⟩ := ⟨by decide, fun _ => by decide +kernel, fun k hk => by
  have : k < 2 := hk
  match k, this with
  | 0, _ => decide +kernel
  | 1, _ => decide +kernel⟩
theorem ff_val : val 16 ⟨#[102, 102]⟩ = 255 := by decide +kernel
theorem ln_255 : ln 255 = 1 := ln_of_top (by rw [BB_eq]; omega) (by rw [dg0]; omega)
set_option maxHeartbeats 4000000 in
theorem walk_base (s : ByteArray) (z : Int) (w : World) (hs : s.size ≤ 140737488351232) (h : Digs w) (hz : z < 2 ∨ 16 < z) :
    Calls Tryd.prog 3 #[.string s, .int .i64 z] w fun e w' => e = .returned (.bool true) ∧ Below w.heap.size w w' := by
  have HH := hide' h
  have PF := fun w' (h' : Digs w') => Parse_ok ⟨#[102, 102]⟩ 16 (by omega) (by omega) (by decide) ff_is w' h'
  rw [ff_val, ln_255] at PF
  have HF := hide' PF
  have s255 := sameB_self 1 255
  clear PF
  have H1 := hide' (Parse_base s z hz)
  have H2 := hide' (rParse_base s z hz)
  have s0 := sameB_self 0 0
  have HS := hide' (fun w' => same_any none none 0 0 0 0 0 0 w' (by omega) (by omega) (⟨by simp, fun h => absurd h (by omega)⟩) (⟨by simp, fun h => absurd h (by omega)⟩))
  go_enter Tryd.func3, Tryd.ntmps3
  go_wp2_with fail
  refine (H1.out _).mono ?_
  rintro e w1 ⟨rfl, rfl⟩
  go_wp2_with fail
  refine (H2.out _).mono ?_
  rintro e w2 ⟨rfl, rfl⟩
  go_wp2_with fail
  refine (HS.out _).mono ?_
  rintro e w3 ⟨rfl, hd3⟩
  have bel : Below w2.heap.size w2 w3 := hd3.below _
  go_wp2_with fail
  refine (HF.out _ (HH.out.below bel)).mono ?_
  rintro e w5 ⟨a5, rfl, h5⟩
  have b5 := bel.trans (h5.below.mono bel.size)
  have n5 := single_new w5 255 28 255 (by omega) rfl
  have HS5 := hide' (same_any a5 (some ⟨w5.heap.size, 0, none⟩) 1 1 255 1 1 255 _ (by omega) (by omega) (segL n5.below h5.seg) n5.seg)
  have b6 := b5.trans (n5.below.mono b5.size)
  go_wp2_with fail
  refine HS5.out.mono ?_
  rintro e w7 ⟨rfl, hd7⟩
  go_wp2
  go_ret
  exact ⟨by first | rfl | simp [s255], b6.trans (hd7.below _)⟩

set_option maxHeartbeats 4000000 in
theorem walk_bad (s : ByteArray) (b : Nat) (w : World) (hs : s.size ≤ 140737488351232) (h : Digs w) (hb0 : 2 ≤ b) (hb : b ≤ 16) (hT : ¬ isT b s) :
    Calls Tryd.prog 3 #[.string s, .int .i64 b] w fun e w' => e = .returned (.bool true) ∧ Below w.heap.size w w' := by
  have HH := hide' h
  have PF := fun w' (h' : Digs w') => Parse_ok ⟨#[102, 102]⟩ 16 (by omega) (by omega) (by decide) ff_is w' h'
  rw [ff_val, ln_255] at PF
  have HF := hide' PF
  have s255 := sameB_self 1 255
  clear PF
  have H1 := hide' (Parse_bad s b hb0 hb (by omega) hT w h)
  have H2 := hide' (rParse_any s b hb hb0 (by omega))
  have HT := hide' hT
  have s0 := sameB_self 0 0
  have HS := hide' (fun w' => same_any none none 0 0 0 0 0 0 w' (by omega) (by omega) (⟨by simp, fun h => absurd h (by omega)⟩) (⟨by simp, fun h => absurd h (by omega)⟩))
  clear hT
  go_enter Tryd.func3, Tryd.ntmps3
  go_wp2_with fail
  refine H1.out.mono ?_
  rintro e w1 ⟨rfl, b1⟩
  go_wp2_with fail
  refine (H2.out _).mono ?_
  rintro e w2 ⟨_, r2, b2⟩
  obtain rfl := r2 HT.out
  go_wp2_with fail
  refine (HS.out _).mono ?_
  rintro e w3 ⟨rfl, hd3⟩
  have bel := (b1.trans (b2.mono b1.size)).trans (hd3.below _)
  go_wp2_with fail
  refine (HF.out _ (HH.out.below bel)).mono ?_
  rintro e w5 ⟨a5, rfl, h5⟩
  have b5 := bel.trans (h5.below.mono bel.size)
  have n5 := single_new w5 255 28 255 (by omega) rfl
  have HS5 := hide' (same_any a5 (some ⟨w5.heap.size, 0, none⟩) 1 1 255 1 1 255 _ (by omega) (by omega) (segL n5.below h5.seg) n5.seg)
  have b6 := b5.trans (n5.below.mono b5.size)
  go_wp2_with fail
  refine HS5.out.mono ?_
  rintro e w7 ⟨rfl, hd7⟩
  go_wp2
  go_ret
  exact ⟨by first | rfl | simp [s255], b6.trans (hd7.below _)⟩

set_option maxHeartbeats 4000000 in
theorem walk_ok (s : ByteArray) (b : Nat) (w : World) (hs : s.size ≤ 140737488351232) (h : Digs w) (hb0 : 2 ≤ b) (hb : b ≤ 16) (hT : isT b s) :
    Calls Tryd.prog 3 #[.string s, .int .i64 b] w fun e w' => e = .returned (.bool true) ∧ Below w.heap.size w w' := by
  have HH := hide' h
  have PF := fun w' (h' : Digs w') => Parse_ok ⟨#[102, 102]⟩ 16 (by omega) (by omega) (by decide) ff_is w' h'
  rw [ff_val, ln_255] at PF
  have HF := hide' PF
  have s255 := sameB_self 1 255
  clear PF
  have hvl : ln (val b s) ≤ s.size / 8 + 1 := ln_le_of_lt (Nat.lt_trans (val_lt hT.2.2) (lt8 hb))
  have H1 := hide' (Parse_ok s b hb0 hb (by omega) hT w h)
  have H2 := hide' (rParse_any s b hb hb0 (by omega))
  have HT := hide' hT
  have sv := sameB_self (ln (val b s)) (val b s)
  clear hT
  go_enter Tryd.func3, Tryd.ntmps3
  go_wp2_with fail
  refine H1.out.mono ?_
  rintro e w1 ⟨a1, rfl, h1⟩
  have b1 := h1.below
  go_wp2_with fail
  refine (H2.out _).mono ?_
  rintro e w2 ⟨r2, _, b2⟩
  obtain ⟨a2, rfl, g2⟩ := r2 HT.out
  have g1 := segL b2 h1.seg
  go_wp2_with fail
  refine (same_any a1 a2 (ln (val b s)) (ln (val b s)) (val b s) (ln (val b s)) (ln (val b s)) (val b s) _ (by omega) (by omega) g1 g2).mono ?_
  rintro e w3 ⟨rfl, hd3⟩
  have bel := (b1.trans (b2.mono b1.size)).trans (hd3.below _)
  go_wp2_with fail
  refine (HF.out _ (HH.out.below bel)).mono ?_
  rintro e w5 ⟨a5, rfl, h5⟩
  have b5 := bel.trans (h5.below.mono bel.size)
  have n5 := single_new w5 255 28 255 (by omega) rfl
  have HS5 := hide' (same_any a5 (some ⟨w5.heap.size, 0, none⟩) 1 1 255 1 1 255 _ (by omega) (by omega) (segL n5.below h5.seg) n5.seg)
  have b6 := b5.trans (n5.below.mono b5.size)
  go_wp2_with fail
  refine HS5.out.mono ?_
  rintro e w7 ⟨rfl, hd7⟩
  go_wp2
  go_ret
  exact ⟨by first | rfl | simp [s255], b6.trans (hd7.below _)⟩

theorem walk (s : ByteArray) (z : Int) (w : World) (hs : s.size ≤ 140737488351232) (hz1 : -9223372036854775808 ≤ z) (hz2 : z ≤ 9223372036854775807) (h : Digs w) :
    Calls Tryd.prog 3 #[.string s, .int .i64 z] w fun e w' => e = .returned (.bool true) ∧ Below w.heap.size w w' := by
  by_cases hz : z < 2 ∨ 16 < z
  · exact walk_base s z w hs h hz
  · obtain ⟨b, rfl⟩ : ∃ b : Nat, z = (b : Int) := ⟨z.toNat, by omega⟩
    by_cases hT : isT b s
    · exact walk_ok s b w hs h (by omega) (by omega) hT
    · exact walk_bad s b w hs h (by omega) (by omega) hT

theorem gTab : Tryd.prog.globalNamed "fulcrum/nat.digits" = some 0 := by kernel_rfl
theorem gTabType : (Tryd.prog.globals[0]?).map (·.type) = some 38 := by kernel_rfl
theorem cellsA : Tryd.prog.cellsOf 38 = 16 := by kernel_rfl
theorem cells8 : Tryd.prog.cellsOf 5 = 1 := by kernel_rfl
theorem table {W : World} (h : laidMetH Tryd.prog Rows.natReadsRow.laid W) : Lib.TabIs Tryd.prog W "fulcrum/nat.digits" .u8 [48, 49, 50, 51, 52, 53, 54, 55, 56, 57, 97, 98, 99, 100, 101, 102] :=
  Lib.tabIs_of_head (rest := []) gTab gTabType Tryd.underlying38 Tryd.underlying5 cells8 cellsA h
theorem digs_of {W : World} (h : laidMetH Tryd.prog Rows.natReadsRow.laid W) : Digs W
  | 0, _ => (table h).cell gTab 0 (by decide)
  | 1, _ => (table h).cell gTab 1 (by decide)
  | 2, _ => (table h).cell gTab 2 (by decide)
  | 3, _ => (table h).cell gTab 3 (by decide)
  | 4, _ => (table h).cell gTab 4 (by decide)
  | 5, _ => (table h).cell gTab 5 (by decide)
  | 6, _ => (table h).cell gTab 6 (by decide)
  | 7, _ => (table h).cell gTab 7 (by decide)
  | 8, _ => (table h).cell gTab 8 (by decide)
  | 9, _ => (table h).cell gTab 9 (by decide)
  | 10, _ => (table h).cell gTab 10 (by decide)
  | 11, _ => (table h).cell gTab 11 (by decide)
  | 12, _ => (table h).cell gTab 12 (by decide)
  | 13, _ => (table h).cell gTab 13 (by decide)
  | 14, _ => (table h).cell gTab 14 (by decide)
  | 15, _ => (table h).cell gTab 15 (by decide)
  | k + 16, hk => absurd hk (by omega)

set_option maxRecDepth 100000 in
theorem contract (H : Type) (enc : TypeId × Value → H) (W : World) (base : Nat) (args : Array Value) (ds gs : List (DataW H)) (before : List MemPlace)
    (hval : ∀ (j : Nat) t v, Tryd.f3.params[j]? = some t → args[j]? = some v → Value.okWide Tryd.prog W .any base t v)
    (hW : DataW.Whole enc Tryd.prog Tryd.f3.params.toList Rows.natReadsSpec.vars false W args.toList ds gs before)
    (hsz : (DataW.weightsEach Tryd.prog (Tryd.f3.params.toList ++ Rows.natReadsSpec.plain.varTypes Tryd.prog) (ds ++ gs)).all (· ≤ reachBytes) = true) (hL : laidMetH Tryd.prog Rows.natReadsRow.laid W) :
    Calls Tryd.prog 3 args W fun e W' => ∃ v, e = .returned v ∧ Rows.natReadsSpec.post enc Tryd.prog Tryd.f3 false true false false W args v W' := by
  have hW' := hW
  obtain ⟨p, q, hA0, hV, rfl, hfz, hnd⟩ := hW
  have hA : DataW.TrodAll enc Tryd.prog W 0 (fun _ => true) true Tryd.f3.params.toList args.toList ds p := hA0
  rw [Tryd.params3] at hA hval hsz
  obtain ⟨v0, vs0, d0, ds0, p0, q0, hargs, rfl, rfl, h0, r0⟩ := trodAll_cons hA
  obtain ⟨v1, vs1, d1, ds1, p1, q1, rfl, rfl, rfl, h1, r1⟩ := trodAll_cons r0
  obtain ⟨rfl, rfl, rfl⟩ := trodAll_nil r1
  obtain rfl : args = #[v0, v1] := by cases args; simp_all
  obtain ⟨rfl, rfl⟩ := trodVars_none hV
  obtain ⟨n0, rfl, rfl, rfl, w0⟩ := Go.ChangeMaps.open_string Tryd.underlying9 (hval 0 9 v0 rfl rfl) h0
  have sz0 : n0.size = n0.data.toList.length := by rw [Array.length_toList]; rfl
  have ss0 := sized_string hsz (j := 0) (t := 9) rfl rfl
  rw [show reachBytes = 140737488351232 from rfl] at ss0
  obtain ⟨z1, rfl, rfl, rfl, w1⟩ := open_int Tryd.underlying3 (hval 1 3 v1 rfl rfl) h1
  have bz1 := bounds_i64 w1
  clear hA0
  simp only [List.append_nil] at hW'
  refine (walk n0 z1 W (by omega) (by omega) (by omega) (digs_of hL)).mono fun e W' ⟨he, bel⟩ => ?_
  subst he
  exact ⟨_, rfl, _, _, _, [], _, [], hW', trodAll_mk1 (shut_bool Tryd.underlying4 _), (trodAll_cons_mk (Go.ChangeMaps.shut_string Tryd.underlying9 w0) (trodAll_cons_mk (shut_int Tryd.underlying3 w1) trodAll_mk0)), rfl, bel.frame _, fun h => by cases h⟩

def setCells (cs : Array Value) : Obj → Obj
  | .cells _ t frozen => .cells cs t frozen
  | o => o
set_option maxRecDepth 100000 in
noncomputable def laidWorld (os : Os) : World :=
  { World.holding Tryd.prog os ⟨#[], #[], []⟩ with heap := ((World.holding Tryd.prog os ⟨#[], #[], []⟩).heap.modify 0 (setCells #[.int .u8 48, .int .u8 49, .int .u8 50, .int .u8 51, .int .u8 52, .int .u8 53, .int .u8 54, .int .u8 55, .int .u8 56, .int .u8 57, .int .u8 97, .int .u8 98, .int .u8 99, .int .u8 100, .int .u8 101, .int .u8 102])) }
set_option maxRecDepth 100000 in
theorem laid_met (os : Os) : laidMet Tryd.prog Rows.natReadsRow.laid ((laidWorld os).forCall (fun _ _ => 0) ⟨#[], #[.string ByteArray.empty, .int .i64 0], []⟩).memory :=
  laidMet_of_run' 8 (by kernel_rfl) (by kernel_rfl)
theorem reads (os : Os) {H : Type} (enc : TypeId × Value → H) : ∃ places, DataW.whole enc Tryd.prog ((laidWorld os).forCall (fun _ _ => 0) ⟨#[], #[.string ByteArray.empty, .int .i64 0], []⟩).memory Tryd.f3.params.toList Rows.natReadsSpec.vars false [Value.string ByteArray.empty, Value.int .i64 0] 8 = some ([.lit (.string []), .lit (.int .i64 0)], [], places) :=
  ⟨[], by kernel_rfl⟩

set_option maxRecDepth 100000 in
theorem liftedUpto (os : Os) (started : os.Started) (H : Type) (enc : TypeId × Value → H) (F : Stop.Interp) :
    ReturnsInHanded {} Tryd.checked os 3 .any ((OpenSpec.ofChange Rows.natReadsSpec).preRow enc Tryd.prog Tryd.f3 Rows.natReadsRow.domain false Rows.natReadsRow.laid) (((OpenSpec.ofChange Rows.natReadsSpec).at F).post enc Tryd.prog Tryd.f3 false true false false) := by
  obtain ⟨places, hx⟩ := reads os enc
  refine returnsInHanded_of_row (C := Tryd.checked) (s := OpenSpec.ofChange Rows.natReadsSpec) own started (by kernel_rfl) Tryd.func3
    (witness_row_at (enc := enc) (C := Tryd.checked) false (laidWorld os) #[.string ByteArray.empty, .int .i64 0] rfl (by kernel_rfl) (by kernel_rfl) (by kernel_rfl)
      (OpenSpec.preRow_of_cond 8 hx (by kernel_rfl) (fun k hk => by cases hk) (by kernel_rfl) (laid_met os))) ?_
  intro W base args ds gs before hval hW _ hk hsz hL _ _
  exact contract H enc W base args ds gs before hval hW hsz hL

theorem saidUpto : Rows.NatReadsSaid :=
  OpenClaim.holds_of_cond 3 Tryd.f3 rfl rfl rfl rfl rfl rfl rfl ⟨rfl, rfl, rfl, rfl, rfl⟩ rfl rfl rfl rfl rfl (by kernel_rfl) Tryd.func3 (by kernel_rfl)
    (of_decide_eq_true (by kernel_rfl)) (by unfold Func.isWrapper; first | (rw [if_pos (by decide +kernel)]; kernel_rfl) | (rw [if_neg (by decide +kernel)]; exact ⟨rfl, rfl⟩))
    (fun os started H enc _ F => by rw [OpenClaim.pre_eq_preRow]; exact liftedUpto os started H enc F)

theorem plain (f : FuncId) (fn : Func) (hf : Tryd.pinned.checked.prog.funcNamed "fulcrum/fulcrumlaw01.NatReads" = some f) (hfn : Tryd.pinned.checked.prog.funcs[f]? = some fn) :
    false = Tryd.pinned.checked.prog.looks [] ∧ ∀ (j : Nat) t, fn.params[j]? = some t → Tryd.pinned.checked.prog.wantsStandIn t = false := by
  obtain rfl : f = 3 := Option.some.inj ((show Tryd.prog.funcNamed "fulcrum/fulcrumlaw01.NatReads" = some 3 by kernel_rfl).symm.trans hf) |>.symm
  obtain rfl : fn = Tryd.f3 := (Option.some.inj (Tryd.func3.symm.trans hfn)).symm
  refine ⟨by kernel_rfl, fun j t ht => ?_⟩
  rw [Tryd.params3] at ht
  have hm := Array.mem_of_getElem? ht
  simp only [List.mem_toArray, List.mem_cons, List.not_mem_nil, or_false] at hm
  rcases hm with rfl | rfl
  · exact (show Tryd.prog.wantsStandIn 9 = false by kernel_rfl)
  · exact (show Tryd.prog.wantsStandIn 3 = false by kernel_rfl)

theorem cardUpto : Rows.NatReadsCardSaid :=
  Claim7.holds_tied_plain_at .later [] _ _ _ _ saidUpto (fun _ h => by cases h) (by kernel_rfl) (fun _ h => by cases h) natReads_row_tie rfl ⟨rfl, rfl⟩ (by kernel_rfl) rfl plain (by kernel_rfl)
end Go.Proofs.YtkipblfblgjnhaaDoor.natReads
namespace Go.Proofs.YtkipblfblgjnhaaDoor
theorem natReads_holds : Rows.NatReadsCardSaid := natReads.cardUpto
#print axioms natReads_holds
end Go.Proofs.YtkipblfblgjnhaaDoor
