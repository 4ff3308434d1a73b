import Derived.Test.YtnoiiphgpjifgaaGreatDoorWYF
import Derived.Test.YtnoiiphgpjifgaaGreatDoorWQA
import Derived.Test.YtnoiiphgpjifgaaGreatDoorWH3
import Derived.Test.YtnoiiphgpjifgaaGreatDoorOpenQ
import Derived.Test.YtnoiiphgpjifgaaGreatDoorCards
import Derived.Test.YtnoiiphgpjifgaaGreatDoorTie
import Derived.Deep.DeepHandedRow
import Derived.Lib.LaidTab
set_option linter.unusedSimpArgs false
namespace Go.Proofs.YtnoiiphgpjifgaaGreatDoor.ratioDecimals
open Go.ChangeShapes Go.WideShapes Go.ChangeAt Go.RowKit Go.Proofs.YtnoiiphgpjifgaaGreatDoor
set_option linter.unusedVariables false
set_option maxHeartbeats 4000000 in
set_option maxRecDepth 100000 in
theorem walkG (s0 : Bool) (a0 : Option Addr) (n0 c0 X0 : Nat) (b0 : Option Addr) (m0 d0 Y0 : Nat) (z : Int) (w : World) (hc0 : n0 ≤ c0) (hm0 : n0 ≤ 1048576) (hS0 : Seg w a0 X0 n0) (hd0 : m0 ≤ d0) (hk0 : m0 ≤ 1048576) (hT0 : Seg w b0 Y0 m0) (h1 : -9223372036854775808 ≤ z) (h2 : z ≤ 9223372036854775807) (hD : Digs w) (v : ByteArray) (c : Int) (GD : ∀ w' p q, Seg w' p X0 n0 → Seg w' q Y0 m0 → Digs w' → Calls Tryz.prog 5 #[.agg #[.bool s0, .slice p n0 n0, .slice q m0 m0], .int .i64 z] w' fun e w'' => e = .returned (.tuple #[.string v, .int .i64 c]) ∧ Below w'.heap.size w' w'') (GV : ∀ w', Seg w' a0 X0 n0 → Seg w' b0 Y0 m0 → Calls Tryz.prog 7 #[.agg #[.bool s0, .slice a0 n0 c0, .slice b0 m0 d0], .int .i64 z] w' fun e w'' => e = .returned (.tuple #[.string v, .int .i64 c]) ∧ Below w'.heap.size w' w'') :
    Calls Tryz.prog 3 #[.agg #[.bool s0, .slice a0 n0 c0, .slice b0 m0 d0], .int .i64 z] w fun e w' => e = .returned (.bool true) ∧ Below w.heap.size w w' := by
  have G1 := hide' (fun w' k1 k2 => ltwin_is s0 a0 n0 c0 X0 b0 m0 d0 Y0 w' hc0 (by omega) k1 hd0 (by omega) k2)
  have G2 := hide' GD
  have G3 := hide' GV
  replace hD := hide' hD
  clear GD GV
  have bel : Below w.heap.size w w := Below.refl _ _
  have bb := below_alloc (w := w) (.cells #[.bool s0, .slice a0 n0 c0, .slice b0 m0 d0] 27)
  replace hS0 := hS0.later bb
  replace hT0 := hT0.later bb
  replace bel := bel.trans (bb.mono bel.size)
  clear bb
  have qP := Blk.new w #[.bool s0, .slice a0 n0 c0, .slice b0 m0 d0] 27
  go_enter Tryz.func3, Tryz.ntmps3
  go_wp2_with fail
  obtain ⟨W0, hW⟩ : ∃ W, (w.alloc (.cells #[.bool s0, .slice a0 n0 c0, .slice b0 m0 d0] 27)) = W := ⟨_, rfl⟩
  rw [hW] at bel hS0 hT0 qP ⊢
  clear hW
  refine (G1.out _ hS0 hT0).mono ?_
  rintro e w1 ⟨p, q, rfl, np, nq⟩
  have bb := np.below
  replace hS0 := hS0.later bb
  replace hT0 := hT0.later bb
  replace qP := qP.later bb
  replace bel := bel.trans (bb.mono bel.size)
  clear bb
  have kp := np.seg
  have kq := nq.seg
  clear np nq
  go_wp2_with fail
  refine (G2.out _ p q kp kq (hD.out.below bel)).mono ?_
  rintro e w2 ⟨rfl, b2⟩
  have bb := b2
  replace hS0 := hS0.later bb
  replace hT0 := hT0.later bb
  replace qP := qP.later bb
  replace kp := kp.later bb
  replace kq := kq.later bb
  replace bel := bel.trans (bb.mono bel.size)
  clear bb
  clear b2
  have qP_0 := qP.cell 0
  have qP_1 := qP.cell 1
  have qP_2 := qP.cell 2
  simp only [List.getElem?_toArray, List.getElem?_cons_zero, List.getElem?_cons_succ] at qP_0 qP_1 qP_2
  go_wp2_with fail
  clear qP_0 qP_1 qP_2
  refine (G3.out _ hS0 hT0).mono ?_
  rintro e w3 ⟨rfl, b3⟩
  have bb := b3
  replace hS0 := hS0.later bb
  replace hT0 := hT0.later bb
  replace qP := qP.later bb
  replace kp := kp.later bb
  replace kq := kq.later bb
  replace bel := bel.trans (bb.mono bel.size)
  clear bb
  clear b3
  go_wp2_with fail
  refine (half_is _ (five (hD.out.below bel))).mono ?_
  rintro e w4 ⟨rfl, b4⟩
  have bb := b4
  replace hS0 := hS0.later bb
  replace hT0 := hT0.later bb
  replace qP := qP.later bb
  replace kp := kp.later bb
  replace kq := kq.later bb
  replace bel := bel.trans (bb.mono bel.size)
  clear bb
  clear b4
  go_wp2
  go_ret
  exact ⟨by simp, bel⟩
theorem walk (s0 : Bool) (a0 : Option Addr) (n0 c0 X0 : Nat) (b0 : Option Addr) (m0 d0 Y0 : Nat) (z : Int) (w : World) (hc0 : n0 ≤ c0) (hm0 : n0 ≤ 1048576) (hS0 : Seg w a0 X0 n0) (hd0 : m0 ≤ d0) (hk0 : m0 ≤ 1048576) (hT0 : Seg w b0 Y0 m0) (h1 : -9223372036854775808 ≤ z) (h2 : z ≤ 9223372036854775807) (hD : Digs w) : Calls Tryz.prog 3 #[.agg #[.bool s0, .slice a0 n0 c0, .slice b0 m0 d0], .int .i64 z] w fun e w' => e = .returned (.bool true) ∧ Below w.heap.size w w' := by
  by_cases hz : z < 0 ∨ 1000 < z
  · exact walkG s0 a0 n0 c0 X0 b0 m0 d0 Y0 z w hc0 hm0 hS0 hd0 hk0 hT0 h1 h2 hD ⟨#[]⟩ 32 (fun w' p q _ _ _ => dec_no s0 p n0 n0 X0 q m0 m0 Y0 z w' h1 h2 hz) (fun w' _ _ => vdec_no ⟨s0, a0, n0, c0, X0, b0, m0, d0, Y0⟩ z w' h1 h2 hz)
  · obtain ⟨k, rfl⟩ : ∃ k : Nat, z = (k : Int) := ⟨z.toNat, by omega⟩
    have hp : k ≤ 1000 := by omega
    obtain ⟨Q, hQ⟩ : ∃ Q : Int, rn s0 X0 Y0 * ((10 ^ k : Nat) : Int) = Q := ⟨_, rfl⟩
    obtain ⟨M, hM⟩ : ∃ M, rnd Q ((rd Y0 : Nat) : Int) = M := ⟨_, rfl⟩
    obtain ⟨u, hu⟩ := isTx_ex (b := 10) (by omega) (by omega) (am M)
    have lM := dec_ln hS0.1 hm0 hp hQ hM
    exact walkG s0 a0 n0 c0 X0 b0 m0 d0 Y0 k w hc0 hm0 hS0 hd0 hk0 hT0 h1 h2 hD (decT (ng M) k u) 0 (fun w' p q k1 k2 kd => dec_is s0 p n0 n0 X0 q m0 m0 Y0 k M Q u w' (Nat.le_refl _) (by omega) k1 (Nat.le_refl _) (by omega) k2 hp kd noughts (pow10 noughts) hQ hM (by omega) hu)
      (fun w' k1 k2 => vdec_is ⟨s0, a0, n0, c0, X0, b0, m0, d0, Y0⟩ k M Q u w' ⟨k1, hc0, by show n0 ≤ _; omega, k2, hd0, by show m0 ≤ _; omega⟩ ⟨hm0, hk0⟩ hp hQ hM hu)
theorem gTab : Tryz.prog.globalNamed "fulcrum/nat.digits" = some 0 := by kernel_rfl
theorem gTabType : (Tryz.prog.globals[0]?).map (·.type) = some 114 := by kernel_rfl
theorem cellsA : Tryz.prog.cellsOf 114 = 16 := by kernel_rfl
theorem cells8 : Tryz.prog.cellsOf 5 = 1 := by kernel_rfl
theorem table {W : World} (h : laidMetH Tryz.prog Rows.ratioDecimalsUptoRow.laid W) : Lib.TabIs Tryz.prog W "fulcrum/nat.digits" .u8 [48, 49, 50, 51, 52, 53, 54, 55, 56, 57, 97, 98, 99, 100, 101, 102] :=
  Lib.tabIs_of_head (rest := []) gTab gTabType Tryz.underlying114 Tryz.underlying5 cells8 cellsA h
theorem digs_of {W : World} (h : laidMetH Tryz.prog Rows.ratioDecimalsUptoRow.laid W) : Digs W
  | 0, _ => (table h).cell gTab 0 (by decide)
  | 1, _ => (table h).cell gTab 1 (by decide)
  | 2, _ => (table h).cell gTab 2 (by decide)
  | 3, _ => (table h).cell gTab 3 (by decide)
  | 4, _ => (table h).cell gTab 4 (by decide)
  | 5, _ => (table h).cell gTab 5 (by decide)
  | 6, _ => (table h).cell gTab 6 (by decide)
  | 7, _ => (table h).cell gTab 7 (by decide)
  | 8, _ => (table h).cell gTab 8 (by decide)
  | 9, _ => (table h).cell gTab 9 (by decide)
  | 10, _ => (table h).cell gTab 10 (by decide)
  | 11, _ => (table h).cell gTab 11 (by decide)
  | 12, _ => (table h).cell gTab 12 (by decide)
  | 13, _ => (table h).cell gTab 13 (by decide)
  | 14, _ => (table h).cell gTab 14 (by decide)
  | 15, _ => (table h).cell gTab 15 (by decide)
  | k + 16, hk => absurd hk (by omega)
set_option maxRecDepth 100000 in
theorem contract (H : Type) (enc : TypeId × Value → H) (W : World) (base : Nat) (args : Array Value) (ds gs : List (DataW H)) (before : List MemPlace)
    (hval : ∀ (j : Nat) t v, Tryz.f3.params[j]? = some t → args[j]? = some v → Value.okWide Tryz.prog W .any base t v)
    (hW : DataW.Whole enc Tryz.prog Tryz.f3.params.toList Rows.ratioDecimalsSpec.vars false W args.toList ds gs before)
    (hsz : (DataW.weightsEach Tryz.prog (Tryz.f3.params.toList ++ Rows.ratioDecimalsSpec.plain.varTypes Tryz.prog) (ds ++ gs)).all (· ≤ reachBytes) = true) (hk : Rows.uptoSmall H (ds ++ gs) = true) (hL : laidMetH Tryz.prog Rows.ratioDecimalsUptoRow.laid W) :
    Calls Tryz.prog 3 args W fun e W' => ∃ v, e = .returned v ∧ Rows.ratioDecimalsSpec.post enc Tryz.prog Tryz.f3 false true false false W args v W' := by
  have hW' := hW
  obtain ⟨p, q, hA0, hV, rfl, hfz, hnd⟩ := hW
  have hA : DataW.TrodAll enc Tryz.prog W 0 (fun _ => true) true Tryz.f3.params.toList args.toList ds p := hA0
  rw [Tryz.params3] at hA hval hsz
  obtain ⟨v0, vs0, d0, ds0, p0, q0, hargs, rfl, rfl, h0, r0⟩ := trodAll_cons hA
  obtain ⟨v1, vs1, d1, ds1, p1, q1, rfl, rfl, rfl, h1, r1⟩ := trodAll_cons r0
  obtain ⟨rfl, rfl, rfl⟩ := trodAll_nil r1
  obtain rfl : args = #[v0, v1] := by cases args; simp_all
  obtain ⟨rfl, rfl⟩ := trodVars_none hV
  have lt0 : ∀ x ∈ p0, x.block < W.heap.size := by obtain ⟨m, hm⟩ := h0; exact DataW.trod_lt m _ _ _ hm
  obtain ⟨rs0, ra0, rn0, rc0, rX0, rb0, rm0, re0, rY0, rfl, hS0, hc0, hb0, hT0, hd0, hk0, hu0, hv0⟩ := open_Rat (hval 0 27 v0 rfl rfl) h0 (sized_at 0 hsz rfl rfl)
  obtain ⟨z1, rfl, rfl, rfl, w1⟩ := open_int Tryz.underlying3 (hval 1 3 v1 rfl rfl) h1
  have bz1 := bounds_i64 w1
  clear hA0
  have hbulk := of_decide_eq_true hk
  simp only [List.append_nil, Rows.uptoBulkAll] at hbulk
  replace hb0 : rn0 ≤ 1048576 := by omega
  replace hk0 : rm0 ≤ 1048576 := by omega
  simp only [List.append_nil] at hW'
  refine (walk rs0 ra0 rn0 rc0 rX0 rb0 rm0 re0 rY0 z1 W hc0 hb0 hS0 hd0 hk0 hT0 (by omega) (by omega) (digs_of hL)).mono fun e W' ⟨he, bel⟩ => ?_
  subst he
  exact ⟨_, rfl, _, _, _, [], _, [], hW', trodAll_mk1 (shut_bool Tryz.underlying4 _), (trodAll_cons_mk (Below.trod laidOut (by kernel_rfl) (of_decide_eq_true (by kernel_rfl)) h0 bel lt0) (trodAll_cons_mk (shut_int Tryz.underlying3 w1) trodAll_mk0)), rfl, bel.frame _, fun h => by cases h⟩
def setCells (cs : Array Value) : Obj → Obj
  | .cells _ t frozen => .cells cs t frozen
  | o => o
set_option maxRecDepth 100000 in
noncomputable def laidWorld (os : Os) : World :=
  { World.holding Tryz.prog os ⟨#[], #[], []⟩ with heap := ((World.holding Tryz.prog os ⟨#[], #[], []⟩).heap.modify 0 (setCells #[.int .u8 48, .int .u8 49, .int .u8 50, .int .u8 51, .int .u8 52, .int .u8 53, .int .u8 54, .int .u8 55, .int .u8 56, .int .u8 57, .int .u8 97, .int .u8 98, .int .u8 99, .int .u8 100, .int .u8 101, .int .u8 102])) }
set_option maxRecDepth 100000 in
theorem laid_met (os : Os) : laidMet Tryz.prog Rows.ratioDecimalsUptoRow.laid ((laidWorld os).forCall (fun _ _ => 0) ⟨#[], #[.agg #[.bool false, .slice none 0 0, .slice none 0 0], .int .i64 0], []⟩).memory :=
  laidMet_of_run' 8 (by kernel_rfl) (by kernel_rfl)
theorem reads (os : Os) {H : Type} (enc : TypeId × Value → H) : ∃ places, DataW.whole enc Tryz.prog ((laidWorld os).forCall (fun _ _ => 0) ⟨#[], #[.agg #[.bool false, .slice none 0 0, .slice none 0 0], .int .i64 0], []⟩).memory Tryz.f3.params.toList Rows.ratioDecimalsSpec.vars false [Value.agg #[.bool false, .slice none 0 0, .slice none 0 0], Value.int .i64 0] 8 = some ([.agg [.agg [.lit (.bool false), .nil], .nil], .lit (.int .i64 0)], [], places) :=
  ⟨[], by kernel_rfl⟩
set_option maxRecDepth 100000 in
theorem liftedUpto (os : Os) (started : os.Started) (H : Type) (enc : TypeId × Value → H) (F : Stop.Interp) :
    ReturnsInHanded {} Tryz.checked os 3 .any ((Rows.OpenSpec.upto Rows.ratioDecimalsSpec).preRow enc Tryz.prog Tryz.f3 Rows.ratioDecimalsUptoRow.domain false Rows.ratioDecimalsUptoRow.laid) (((Rows.OpenSpec.upto Rows.ratioDecimalsSpec).at F).post enc Tryz.prog Tryz.f3 false true false false) := by
  obtain ⟨places, hx⟩ := reads os enc
  refine returnsInHanded_of_row (C := Tryz.checked) (s := Rows.OpenSpec.upto Rows.ratioDecimalsSpec) own started (by kernel_rfl) Tryz.func3
    (witness_row_at (enc := enc) (C := Tryz.checked) false (laidWorld os) #[.agg #[.bool false, .slice none 0 0, .slice none 0 0], .int .i64 0] rfl (by kernel_rfl) (by kernel_rfl) (by kernel_rfl)
      (OpenSpec.preRow_of_cond 8 hx (by kernel_rfl) (fun k hk => by cases hk; kernel_rfl) (by kernel_rfl) (laid_met os))) ?_
  intro W base args ds gs before hval hW _ hk hsz hL hSh _
  exact contract H enc W base args ds gs before hval hW hsz (hk _ rfl) hL
theorem saidUpto : Rows.RatioDecimalsUptoSaid :=
  OpenClaim.holds_of_cond 3 Tryz.f3 rfl rfl rfl rfl rfl rfl rfl ⟨rfl, rfl, rfl, rfl, rfl⟩ rfl rfl rfl rfl rfl (by kernel_rfl) Tryz.func3 (by kernel_rfl)
    (of_decide_eq_true (by kernel_rfl)) (by unfold Func.isWrapper; first | (rw [if_pos (by decide +kernel)]; kernel_rfl) | (rw [if_neg (by decide +kernel)]; exact ⟨rfl, rfl⟩))
    (fun os started H enc _ F => by rw [OpenClaim.pre_eq_preRow]; exact liftedUpto os started H enc F)
theorem plain (f : FuncId) (fn : Func) (hf : Tryz.pinned.checked.prog.funcNamed "fulcrum/fulcrumlaw03.RatioDecimals" = some f) (hfn : Tryz.pinned.checked.prog.funcs[f]? = some fn) :
    false = Tryz.pinned.checked.prog.looks [] ∧ ∀ (j : Nat) t, fn.params[j]? = some t → Tryz.pinned.checked.prog.wantsStandIn t = false := by
  obtain rfl : f = 3 := Option.some.inj ((show Tryz.prog.funcNamed "fulcrum/fulcrumlaw03.RatioDecimals" = some 3 by kernel_rfl).symm.trans hf) |>.symm
  obtain rfl : fn = Tryz.f3 := (Option.some.inj (Tryz.func3.symm.trans hfn)).symm
  refine ⟨by kernel_rfl, fun j t ht => ?_⟩
  rw [Tryz.params3] at ht
  have hm := Array.mem_of_getElem? ht
  simp only [List.mem_toArray, List.mem_cons, List.not_mem_nil, or_false] at hm
  rcases hm with rfl | rfl
  · exact (show Tryz.prog.wantsStandIn 27 = false by kernel_rfl)
  · exact (show Tryz.prog.wantsStandIn 3 = false by kernel_rfl)
theorem cardUpto : Rows.RatioDecimalsUptoCardSaid :=
  Claim7.holds_tied_plain_at .later [] _ _ _ _ saidUpto (fun _ h => by cases h) (by kernel_rfl) (fun _ h => by cases h) ratioDecimalsUpto_row_tie rfl ⟨rfl, rfl⟩ (by kernel_rfl) rfl plain (by kernel_rfl)
end Go.Proofs.YtnoiiphgpjifgaaGreatDoor.ratioDecimals
namespace Go.Proofs.YtnoiiphgpjifgaaGreatDoor
theorem ratioDecimals_holds : Rows.RatioDecimalsUptoCardSaid := ratioDecimals.cardUpto
#print axioms ratioDecimals_holds
end Go.Proofs.YtnoiiphgpjifgaaGreatDoor
