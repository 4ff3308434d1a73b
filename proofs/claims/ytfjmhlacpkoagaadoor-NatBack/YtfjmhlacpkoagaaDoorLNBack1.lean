/-
  NatBack, the first form.
-/
import Derived.Test.YtfjmhlacpkoagaaDoorWTD
import Derived.Test.YtfjmhlacpkoagaaDoorW3
import Derived.Test.YtfjmhlacpkoagaaDoorOpen
import Derived.Test.YtfjmhlacpkoagaaDoorCards
import Derived.Test.YtfjmhlacpkoagaaDoorTie
import Derived.Deep.DeepHandedRow
import Derived.Lib.LaidTab
namespace Go.Proofs.YtfjmhlacpkoagaaDoor.natBack
open Go.ChangeShapes Go.WideShapes Go.ChangeAt Go.RowKit Go.Proofs.YtfjmhlacpkoagaaDoor
set_option linter.unusedVariables false

set_option maxHeartbeats 4000000 in
theorem walk_base (a : Option Addr) (n cap X : Nat) (z : Int) (w : World) (hb : n < 67108864) (hz : z < 2 ∨ 16 < z) :
    Calls Tryd.prog 4 #[.slice a n cap, .int .i64 z] w fun e w' => e = .returned (.bool true) ∧ Below w.heap.size w w' := by
  have H1 := hide' (Parse_base ⟨#[49]⟩ z hz)
  have hn : ¬ ((67108864 : Int) ≤ (n : Int)) := by omega
  have hn2 : ((n : Int) < 67108864) := by omega
  by_cases h2 : z < 2
  · go_enter Tryd.func4, Tryd.ntmps4
    go_wp2_with fail
    refine (H1.out _).mono ?_
    rintro e w1 ⟨rfl, rfl⟩
    go_wp2
    go_ret
    exact ⟨rfl, Below.refl _ _⟩
  · have h3 : (16 : Int) < z := by omega
    have h4 : decide (z < 2) = false := by rw [decide_eq_false_iff_not]; omega
    go_enter Tryd.func4, Tryd.ntmps4
    go_wp2_with fail
    refine (H1.out _).mono ?_
    rintro e w1 ⟨rfl, rfl⟩
    go_wp2
    go_ret
    exact ⟨rfl, Below.refl _ _⟩
set_option maxHeartbeats 4000000 in
theorem walk_ok (a : Option Addr) (n cap X b : Nat) (w : World) (hS : Seg w a X n) (hc : n ≤ cap) (hb : n < 67108864) (h : Digs w) (hb0 : 2 ≤ b) (hb1 : b ≤ 16) :
    Calls Tryd.prog 4 #[.slice a n cap, .int .i64 b] w fun e w' => e = .returned (.bool true) ∧ Below w.heap.size w w' := by
  have hn : ¬ ((67108864 : Int) ≤ (n : Int)) := by omega
  have hn2 : ((n : Int) < 67108864) := by omega
  have e1 : ¬ ((b : Int) < 2) := by omega
  have e2 : ¬ ((16 : Int) < (b : Int)) := by omega
  have hl := ln_le_of_lt hS.1
  have HH := hide' h
  have sv := sameB_self (ln X) X
  go_enter Tryd.func4, Tryd.ntmps4
  go_wp2_with fail
  refine (twin_any a n cap X w (by omega) hS).mono ?_
  rintro e w1 ⟨a1, rfl, h1⟩
  have b1 := h1.below
  go_wp2_with fail
  refine (Text_any a1 n n X b hb0 hb1 w1 (HH.out.below b1) (Nat.le_refl _) (by omega) h1.seg).mono ?_
  rintro e w2 ⟨t, rfl, hT, b2⟩
  have hts := hT.size_le hb0 hS.1
  have b12 := b1.trans (b2.mono b1.size)
  have HP := Parse_ok t b hb0 hb1 (by omega) (hT.isT hb0 hb1) w2 (HH.out.below b12)
  rw [hT.val hb0 hb1] at HP
  have HP' := hide' HP
  have HTT := hide' hT
  clear HP hT hts
  go_wp2_with fail
  refine HP'.out.mono ?_
  rintro e w3 ⟨a3, rfl, h3⟩
  have b13 := b12.trans (h3.below.mono b12.size)
  have s3 := hS.below b13 (Nat.le_refl _)
  go_wp2_with fail
  refine (rNorm_any a n cap X w3 (by omega) s3).mono ?_
  rintro e w4 ⟨a4, rfl, h4⟩
  have b14 := b13.trans (h4.below.mono b13.size)
  have g3 := segL h4.below h3.seg
  go_wp2_with fail
  refine (same_any a3 a4 (ln X) (ln X) X (ln X) (ln X) X w4 (by omega) (by omega) g3 h4.seg).mono ?_
  rintro e w5 ⟨rfl, hd5⟩
  go_wp2
  go_ret
  exact ⟨by first | rfl | simp [sv], b14.trans (hd5.below _)⟩
set_option maxHeartbeats 4000000 in
theorem walk_base0 (a : Option Addr) (n cap X : Nat) (z : Int) (w : World) (hb : 67108864 ≤ n) (hz : z < 2 ∨ 16 < z) :
    Calls Tryd.prog 4 #[.slice a n cap, .int .i64 z] w fun e w' => e = .returned (.bool true) ∧ Below w.heap.size w w' := by
  have H1 := hide' (Parse_base ⟨#[49]⟩ z hz)
  have hn : ((67108864 : Int) ≤ (n : Int)) := by omega
  have hn2 : ¬ ((n : Int) < 67108864) := by omega
  by_cases h2 : z < 2
  · go_enter Tryd.func4, Tryd.ntmps4
    go_wp2_with fail
    refine (H1.out _).mono ?_
    rintro e w1 ⟨rfl, rfl⟩
    go_wp2
    go_ret
    exact ⟨rfl, Below.refl _ _⟩
  · have h3 : (16 : Int) < z := by omega
    have h4 : decide (z < 2) = false := by rw [decide_eq_false_iff_not]; omega
    go_enter Tryd.func4, Tryd.ntmps4
    go_wp2_with fail
    refine (H1.out _).mono ?_
    rintro e w1 ⟨rfl, rfl⟩
    go_wp2
    go_ret
    exact ⟨rfl, Below.refl _ _⟩
set_option maxHeartbeats 4000000 in
theorem walk_ok0 (a : Option Addr) (n cap X b : Nat) (w : World) (hS : Seg w a X n) (hc : n ≤ cap) (hb : 67108864 ≤ n) (h : Digs w) (hb0 : 2 ≤ b) (hb1 : b ≤ 16) :
    Calls Tryd.prog 4 #[.slice a n cap, .int .i64 b] w fun e w' => e = .returned (.bool true) ∧ Below w.heap.size w w' := by
  have hn : ((67108864 : Int) ≤ (n : Int)) := by omega
  have hn2 : ¬ ((n : Int) < 67108864) := by omega
  have e1 : ¬ ((b : Int) < 2) := by omega
  have e2 : ¬ ((16 : Int) < (b : Int)) := by omega
  have hS0 := Seg.nil w none
  have hl := ln_le_of_lt hS0.1
  have HH := hide' h
  have sv := sameB_self (ln 0) 0
  go_enter Tryd.func4, Tryd.ntmps4
  go_wp2_with fail
  refine (twin_any none 0 0 0 w (by omega) hS0).mono ?_
  rintro e w1 ⟨a1, rfl, h1⟩
  have b1 := h1.below
  go_wp2_with fail
  refine (Text_any a1 0 0 0 b hb0 hb1 w1 (HH.out.below b1) (Nat.le_refl _) (by omega) h1.seg).mono ?_
  rintro e w2 ⟨t, rfl, hT, b2⟩
  have hts := hT.size_le hb0 hS0.1
  have b12 := b1.trans (b2.mono b1.size)
  have HP := Parse_ok t b hb0 hb1 (by omega) (hT.isT hb0 hb1) w2 (HH.out.below b12)
  rw [hT.val hb0 hb1] at HP
  have HP' := hide' HP
  have HTT := hide' hT
  clear HP hT hts
  go_wp2_with fail
  refine HP'.out.mono ?_
  rintro e w3 ⟨a3, rfl, h3⟩
  have b13 := b12.trans (h3.below.mono b12.size)
  have s3 := hS0.below b13 (Nat.le_refl _)
  go_wp2_with fail
  refine (rNorm_any none 0 0 0 w3 (by omega) s3).mono ?_
  rintro e w4 ⟨a4, rfl, h4⟩
  have b14 := b13.trans (h4.below.mono b13.size)
  have g3 := segL h4.below h3.seg
  go_wp2_with fail
  refine (same_any a3 a4 (ln 0) (ln 0) 0 (ln 0) (ln 0) 0 w4 (by omega) (by omega) g3 h4.seg).mono ?_
  rintro e w5 ⟨rfl, hd5⟩
  go_wp2
  go_ret
  exact ⟨by first | rfl | simp [sv], b14.trans (hd5.below _)⟩
theorem walk (a : Option Addr) (n cap X : Nat) (z : Int) (w : World) (hS : Seg w a X n) (hc : n ≤ cap) (hb : n ≤ 35184372087808) (hz1 : -9223372036854775808 ≤ z) (hz2 : z ≤ 9223372036854775807) (h : Digs w) :
    Calls Tryd.prog 4 #[.slice a n cap, .int .i64 z] w fun e w' => e = .returned (.bool true) ∧ Below w.heap.size w w' := by
  by_cases hz : z < 2 ∨ 16 < z
  · by_cases hn : n < 67108864
    · exact walk_base a n cap X z w hn hz
    · exact walk_base0 a n cap X z w (by omega) hz
  · obtain ⟨b, rfl⟩ : ∃ b : Nat, z = (b : Int) := ⟨z.toNat, by omega⟩
    by_cases hn : n < 67108864
    · exact walk_ok a n cap X b w hS hc hn h (by omega) (by omega)
    · exact walk_ok0 a n cap X b w hS hc (by omega) h (by omega) (by omega)

theorem gTab : Tryd.prog.globalNamed "fulcrum/nat.digits" = some 0 := by kernel_rfl
theorem gTabType : (Tryd.prog.globals[0]?).map (·.type) = some 57 := by kernel_rfl
theorem cellsA : Tryd.prog.cellsOf 57 = 16 := by kernel_rfl
theorem cells8 : Tryd.prog.cellsOf 5 = 1 := by kernel_rfl
theorem table {W : World} (h : laidMetH Tryd.prog Rows.natBackRow.laid W) : Lib.TabIs Tryd.prog W "fulcrum/nat.digits" .u8 [48, 49, 50, 51, 52, 53, 54, 55, 56, 57, 97, 98, 99, 100, 101, 102] :=
  Lib.tabIs_of_head (rest := []) gTab gTabType Tryd.underlying57 Tryd.underlying5 cells8 cellsA h
theorem digs_of {W : World} (h : laidMetH Tryd.prog Rows.natBackRow.laid W) : Digs W
  | 0, _ => (table h).cell gTab 0 (by decide)
  | 1, _ => (table h).cell gTab 1 (by decide)
  | 2, _ => (table h).cell gTab 2 (by decide)
  | 3, _ => (table h).cell gTab 3 (by decide)
  | 4, _ => (table h).cell gTab 4 (by decide)
  | 5, _ => (table h).cell gTab 5 (by decide)
  | 6, _ => (table h).cell gTab 6 (by decide)
  | 7, _ => (table h).cell gTab 7 (by decide)
  | 8, _ => (table h).cell gTab 8 (by decide)
  | 9, _ => (table h).cell gTab 9 (by decide)
  | 10, _ => (table h).cell gTab 10 (by decide)
  | 11, _ => (table h).cell gTab 11 (by decide)
  | 12, _ => (table h).cell gTab 12 (by decide)
  | 13, _ => (table h).cell gTab 13 (by decide)
  | 14, _ => (table h).cell gTab 14 (by decide)
  | 15, _ => (table h).cell gTab 15 (by decide)
  | k + 16, hk => absurd hk (by omega)

set_option maxRecDepth 100000 in
theorem contract (H : Type) (enc : TypeId × Value → H) (W : World) (base : Nat) (args : Array Value) (ds gs : List (DataW H)) (before : List MemPlace)
    (hval : ∀ (j : Nat) t v, Tryd.f4.params[j]? = some t → args[j]? = some v → Value.okWide Tryd.prog W .any base t v)
    (hW : DataW.Whole enc Tryd.prog Tryd.f4.params.toList Rows.natBackSpec.vars false W args.toList ds gs before)
    (hsz : (DataW.weightsEach Tryd.prog (Tryd.f4.params.toList ++ Rows.natBackSpec.plain.varTypes Tryd.prog) (ds ++ gs)).all (· ≤ reachBytes) = true) (hL : laidMetH Tryd.prog Rows.natBackRow.laid W) :
    Calls Tryd.prog 4 args W fun e W' => ∃ v, e = .returned v ∧ Rows.natBackSpec.post enc Tryd.prog Tryd.f4 false true false false W args v W' := by
  have hW' := hW
  obtain ⟨p, q, hA0, hV, rfl, hfz, hnd⟩ := hW
  have hA : DataW.TrodAll enc Tryd.prog W 0 (fun _ => true) true Tryd.f4.params.toList args.toList ds p := hA0
  rw [Tryd.params4] at hA hval hsz
  obtain ⟨v0, vs0, d0, ds0, p0, q0, hargs, rfl, rfl, h0, r0⟩ := trodAll_cons hA
  obtain ⟨v1, vs1, d1, ds1, p1, q1, rfl, rfl, rfl, h1, r1⟩ := trodAll_cons r0
  obtain ⟨rfl, rfl, rfl⟩ := trodAll_nil r1
  obtain rfl : args = #[v0, v1] := by cases args; simp_all
  obtain ⟨rfl, rfl⟩ := trodVars_none hV
  obtain ⟨a0, len0, cap0, rfl⟩ := okWide_slice Tryd.underlying22 (hval 0 22 v0 rfl rfl)
  have lt0 : ∀ x ∈ p0, x.block < W.heap.size := by obtain ⟨m, hm⟩ := h0; exact DataW.trod_lt m _ _ _ hm
  obtain ⟨X0, hS0, hc0, hb0, hu0⟩ := open_nat Tryd.underlying22 h0 (fun elems spare h => sized_slice hsz (j := 0) (t := 22) (e := 28) rfl (by rw [h]; rfl) Tryd.underlying22)
  obtain ⟨z1, rfl, rfl, rfl, w1⟩ := open_int Tryd.underlying3 (hval 1 3 v1 rfl rfl) h1
  have bz1 := bounds_i64 w1
  clear hA0
  simp only [List.append_nil] at hW'
  refine (walk a0 len0 cap0 X0 z1 W hS0 hc0 hb0 (by omega) (by omega) (digs_of hL)).mono fun e W' ⟨he, bel⟩ => ?_
  subst he
  exact ⟨_, rfl, _, _, _, [], _, [], hW', trodAll_mk1 (shut_bool Tryd.underlying4 _), (trodAll_cons_mk (Below.trod laidOut (by kernel_rfl) (of_decide_eq_true (by kernel_rfl)) h0 bel lt0) (trodAll_cons_mk (shut_int Tryd.underlying3 w1) trodAll_mk0)), rfl, bel.frame _, fun h => by cases h⟩

def setCells (cs : Array Value) : Obj → Obj
  | .cells _ t frozen => .cells cs t frozen
  | o => o
set_option maxRecDepth 100000 in
noncomputable def laidWorld (os : Os) : World :=
  { World.holding Tryd.prog os ⟨#[], #[], []⟩ with heap := ((World.holding Tryd.prog os ⟨#[], #[], []⟩).heap.modify 0 (setCells #[.int .u8 48, .int .u8 49, .int .u8 50, .int .u8 51, .int .u8 52, .int .u8 53, .int .u8 54, .int .u8 55, .int .u8 56, .int .u8 57, .int .u8 97, .int .u8 98, .int .u8 99, .int .u8 100, .int .u8 101, .int .u8 102])) }
set_option maxRecDepth 100000 in
theorem laid_met (os : Os) : laidMet Tryd.prog Rows.natBackRow.laid ((laidWorld os).forCall (fun _ _ => 0) ⟨#[], #[.slice none 0 0, .int .i64 0], []⟩).memory :=
  laidMet_of_run' 8 (by kernel_rfl) (by kernel_rfl)
theorem reads (os : Os) {H : Type} (enc : TypeId × Value → H) : ∃ places, DataW.whole enc Tryd.prog ((laidWorld os).forCall (fun _ _ => 0) ⟨#[], #[.slice none 0 0, .int .i64 0], []⟩).memory Tryd.f4.params.toList Rows.natBackSpec.vars false [Value.slice none 0 0, Value.int .i64 0] 8 = some ([.nil, .lit (.int .i64 0)], [], places) :=
  ⟨[], by kernel_rfl⟩

set_option maxRecDepth 100000 in
theorem liftedUpto (os : Os) (started : os.Started) (H : Type) (enc : TypeId × Value → H) (F : Stop.Interp) :
    ReturnsInHanded {} Tryd.checked os 4 .any ((OpenSpec.ofChange Rows.natBackSpec).preRow enc Tryd.prog Tryd.f4 Rows.natBackRow.domain false Rows.natBackRow.laid) (((OpenSpec.ofChange Rows.natBackSpec).at F).post enc Tryd.prog Tryd.f4 false true false false) := by
  obtain ⟨places, hx⟩ := reads os enc
  refine returnsInHanded_of_row (C := Tryd.checked) (s := OpenSpec.ofChange Rows.natBackSpec) own started (by kernel_rfl) Tryd.func4
    (witness_row_at (enc := enc) (C := Tryd.checked) false (laidWorld os) #[.slice none 0 0, .int .i64 0] rfl (by kernel_rfl) (by kernel_rfl) (by kernel_rfl)
      (OpenSpec.preRow_of_cond 8 hx (by kernel_rfl) (fun k hk => by cases hk) (by kernel_rfl) (laid_met os))) ?_
  intro W base args ds gs before hval hW _ hk hsz hL _ _
  exact contract H enc W base args ds gs before hval hW hsz hL

theorem saidUpto : Rows.NatBackSaid :=
  OpenClaim.holds_of_cond 4 Tryd.f4 rfl rfl rfl rfl rfl rfl rfl ⟨rfl, rfl, rfl, rfl, rfl⟩ rfl rfl rfl rfl rfl (by kernel_rfl) Tryd.func4 (by kernel_rfl)
    (of_decide_eq_true (by kernel_rfl)) (by unfold Func.isWrapper; first | (rw [if_pos (by decide +kernel)]; kernel_rfl) | (rw [if_neg (by decide +kernel)]; exact ⟨rfl, rfl⟩))
    (fun os started H enc _ F => by rw [OpenClaim.pre_eq_preRow]; exact liftedUpto os started H enc F)

theorem plain (f : FuncId) (fn : Func) (hf : Tryd.pinned.checked.prog.funcNamed "fulcrum/fulcrumlaw01.NatBack" = some f) (hfn : Tryd.pinned.checked.prog.funcs[f]? = some fn) :
    false = Tryd.pinned.checked.prog.looks [] ∧ ∀ (j : Nat) t, fn.params[j]? = some t → Tryd.pinned.checked.prog.wantsStandIn t = false := by
  obtain rfl : f = 4 := Option.some.inj ((show Tryd.prog.funcNamed "fulcrum/fulcrumlaw01.NatBack" = some 4 by kernel_rfl).symm.trans hf) |>.symm
  obtain rfl : fn = Tryd.f4 := (Option.some.inj (Tryd.func4.symm.trans hfn)).symm
  refine ⟨by kernel_rfl, fun j t ht => ?_⟩
  rw [Tryd.params4] at ht
  have hm := Array.mem_of_getElem? ht
  simp only [List.mem_toArray, List.mem_cons, List.not_mem_nil, or_false] at hm
  rcases hm with rfl | rfl
  · exact (show Tryd.prog.wantsStandIn 26 = false by kernel_rfl)
  · exact (show Tryd.prog.wantsStandIn 3 = false by kernel_rfl)

theorem cardUpto : Rows.NatBackCardSaid :=
  Claim7.holds_tied_plain_at .later [] _ _ _ _ saidUpto (fun _ h => by cases h) (by kernel_rfl) (fun _ h => by cases h) natBack_row_tie rfl ⟨rfl, rfl⟩ (by kernel_rfl) rfl plain (by kernel_rfl)
end Go.Proofs.YtfjmhlacpkoagaaDoor.natBack
namespace Go.Proofs.YtfjmhlacpkoagaaDoor
theorem natBack_holds : Rows.NatBackCardSaid := natBack.cardUpto
#print axioms natBack_holds
end Go.Proofs.YtfjmhlacpkoagaaDoor
