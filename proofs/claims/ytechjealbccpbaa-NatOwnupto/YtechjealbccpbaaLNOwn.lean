/-
  NatOwn: numbers that are handed in, and the room behind them, stay; each answer is new memory.
-/
import Derived.Test.YtechjealbccpbaaOW8
import Derived.Test.YtechjealbccpbaaOpen
namespace Go.Proofs.Ytechjealbccpbaa.natOwn
open Go.ChangeShapes Go.WideShapes Go.ChangeAt Go.RowKit Go.Proofs.Ytechjealbccpbaa
set_option linter.unusedVariables false
set_option linter.unusedSimpArgs false
theorem zs_ex (X Y k : Nat) : ∃ Z, ZS X Y k Z := by
  obtain ⟨R, hR⟩ := isq_ex X
  exact ⟨fun i => [X, X + Y, Y + X, X - Y, X * Y, X / Y, rmd X Y, Nat.gcd X Y, Nat.gcd Y X, X * 2 ^ k, X / 2 ^ k, X ^ 1, X ^ 2, R].getD i 0, rfl, rfl, rfl, rfl, rfl, rfl, rfl, rfl, rfl, rfl, rfl, rfl, rfl, hR⟩
set_option maxHeartbeats 8000000 in
set_option maxRecDepth 100000 in
theorem walk (a0 : Option Addr) (len0 cap0 X0 : Nat) (a1 : Option Addr) (len1 cap1 X1 n2 : Nat) (w : World) (hS0 : Seg w a0 X0 len0) (hc0 : len0 ≤ cap0) (hb0 : len0 ≤ 1048576) (hS1 : Seg w a1 X1 len1) (hc1 : len1 ≤ cap1) (hb1 : len1 ≤ 1048576) (hn2 : n2 < 256) :
    Calls Try.prog 3 #[.slice a0 len0 cap0, .slice a1 len1 cap1, .int .u8 n2] w fun e w' => e = .returned (.bool true) ∧ Below w.heap.size w w' := by
  obtain ⟨Z, hZ⟩ := zs_ex X0 X1 n2
  have HL := hide' (zs_ln hZ hS0.1 hS1.1 hb0 hb1 (by omega))
  have HZ := hide' hZ
  clear hZ
  have hX0 := hide' hS0.1
  have hX1 := hide' hS1.1
  have G1 := hide' (fun w' k1 => room_is a0 len0 cap0 X0 w' (by omega) k1)
  have G2 := hide' (fun w' k1 => room_is a1 len1 cap1 X1 w' (by omega) k1)
  have G3 := hide' (fun w' k1 k2 => wanted_is a0 len0 cap0 X0 a1 len1 cap1 X1 n2 Z w' hc0 hb0 k1 hc1 hb1 k2 (by omega) HZ.out)
  have G4 := hide' (fun w' g0 c0 g1 c1 (h0 : len0 ≤ c0) (h1 : len1 ≤ c1) k1 k2 => answers_is (some ⟨g0, 0, none⟩) len0 c0 X0 (some ⟨g1, 0, none⟩) len1 c1 X1 n2 Z w' h0 hb0 k1 h1 hb1 k2 (by omega) HZ.out)
  have G5 := hide' (fun w' bl c bm d P Q k1 k2 => sameAll_is bl c bm d P Q Z w' k1 k2 HL.out)
  have G6 := hide' (fun w' lo bl cl P (h0 : lo ≤ w'.heap.size) (k : Ls w' lo bl 0 14 P (fun i => ln (Z i)) (fun i j => ((dg (Z i) j : Nat) : Int))) => spoil_is lo bl 0 14 cl P (fun i => ln (Z i)) _ w' (by omega) (fun i hi => Nat.le_trans (HL.out i hi) (by omega)) h0 k)
  have G7 := hide' (fun w' g c k1 k2 => kept_is a0 len0 cap0 X0 g c w' (by omega) k1 k2)
  have G8 := hide' (fun w' g c k1 k2 => kept_is a1 len1 cap1 X1 g c w' (by omega) k1 k2)
  obtain ⟨j0, hj0, hy0, hy1, hy2⟩ := info_parts infoS
  have bel : Below w.heap.size w w := Below.refl _ _
  go_enter Try.func3, Try.ntmps3
  go_wp2_with fail
  refine (G1.out _ hS0).mono ?_
  rintro e w1 ⟨g0, r0, rfl, hr0, hg0, q0, b1⟩
  have bb := b1
  replace hS0 := hS0.later bb
  replace hS1 := hS1.later bb
  replace bel := bel.trans (bb.mono bel.size)
  clear bb
  clear b1
  go_wp2_with fail
  refine (G2.out _ hS1).mono ?_
  rintro e w2 ⟨g1, r1, rfl, hr1, hg1, q1, b2⟩
  have bb := b2
  replace hS0 := hS0.later bb
  replace hS1 := hS1.later bb
  replace q0 := q0.later bb
  replace bel := bel.trans (bb.mono bel.size)
  clear bb
  clear b2
  go_wp2_with fail
  refine (G3.out _ hS0 hS1).mono ?_
  rintro e w3 ⟨bm, B, rfl, b3, hbm, hbm2, hW⟩
  have bb := b3
  replace hS0 := hS0.later bb
  replace hS1 := hS1.later bb
  replace q0 := q0.later bb
  replace q1 := q1.later bb
  replace bel := bel.trans (bb.mono bel.size)
  clear bb
  clear b3
  have HW := hide' hW
  have Q0 := hide' q0
  have Q1 := hide' q1
  clear hW q0 q1
  obtain ⟨wL, hwL⟩ : ∃ wL, w3 = wL := ⟨_, rfl⟩
  rw [hwL] at HW Q0 Q1 hS0 hS1 bel ⊢
  clear hwL
  go_wp2_with fail
  go_loopw [12] (fun vi wr => ∃ k : Nat, k ≤ 2 ∧ vi = .int .i64 k ∧ Below wL.heap.size wL wr) (fun vi _ => 2 - (intOf vi).toNat)
  case atStart => exact ⟨0, by omega, rfl, Below.refl _ _⟩
  case round =>
    obtain ⟨k, hk, rfl, hB⟩ := hrel
    by_cases hlt : k < 2
    · have k2 : ((k : Int) < 2) := by omega
      have q0 := Q0.out.later hB
      have q1 := Q1.out.later hB
      have hs0 := hS0.later hB
      have hs1 := hS1.later hB
      have hw := HW.out.later hB
      replace q0 := hide' q0
      replace q1 := hide' q1
      replace hw := hide' hw
      obtain ⟨wI, hwI⟩ : ∃ wI, wr = wI := ⟨_, rfl⟩
      rw [hwI] at q0 q1 hs0 hs1 hw hB ⊢
      clear hwI
      go_wp2_with fail
      refine (G4.out _ g0 r0 g1 r1 (by omega) (by omega) (q0.out.seg hX0.out) (q1.out.seg hX1.out)).mono ?_
      rintro e w4 ⟨bl, P, rfl, b4, hbl, hbl2, hR, hLs⟩
      have HR := hide' hR
      have HLs := hide' hLs
      clear hR hLs
      go_wp2_with fail
      refine (G5.out _ bl _ bm _ P B HR.out (hw.out.later b4)).mono ?_
      rintro e w5 ⟨rfl, b5⟩
      go_wp2_with fail
      have hO0 : (w5.alloc (.cells #[] 22)).ownsRow w5.heap.size 22 1 (.slice (some ⟨w5.heap.size, 0, none⟩) 0 0) 0 [] := World.ownsRow_made w5 #[] 0 (Nat.le_refl _) (by simp only [maxLen]; omega) (by simp)
      have b6 := below_alloc (w := w5) (.cells #[] 22)
      have HR5 := hide' (HR.out.later b5)
      go_loopw [14, 15] (fun vo vi wr => ∃ i : Nat, i ≤ 14 ∧ vi = .int .i64 i ∧ wr.ownsRow w5.heap.size 22 1 vo i (rowc P Z i) ∧ Below w5.heap.size w5 wr) (fun _ vi _ => 14 - (intOf vi).toNat)
      case atStart => exact ⟨0, by omega, rfl, hO0, b6⟩
      case round =>
        clear hO0 b6
        obtain ⟨i, hi, rfl, hO, hB6⟩ := hrel
        by_cases hi14 : i < 14
        · have i2 : ((i : Int) < 14) := by omega
          have i1 : (0 : Int) ≤ (i : Int) := by omega
          have c0 := below_cell hB6 (HR5.out i hi14).1
          obtain ⟨p, hp⟩ : ∃ p, P i = p := ⟨_, rfl⟩
          obtain ⟨V, hV⟩ : ∃ V, Z i = V := ⟨_, rfl⟩
          rw [hp, hV] at c0
          replace hp := hide' hp
          replace hV := hide' hV
          obtain ⟨zs, hzs⟩ : ∃ zs, rowc P Z i = zs := ⟨_, rfl⟩
          rw [hzs] at hO
          replace hzs := hide' hzs
          obtain ⟨wB, hwB⟩ : ∃ wB, wr.alloc (.cells #[.slice p (ln V) (ln V)] 22) = wB := ⟨_, rfl⟩
          have hnew := heap_alloc_new wr (.cells #[.slice p (ln V) (ln V)] 22)
          have b3 := below_alloc (w := wr) (.cells #[.slice p (ln V) (ln V)] 22)
          rw [hwB] at hnew b3
          have s3 := b3.size
          have s4 := hB6.size
          have hbb : w5.heap.size ≤ wB.heap.size := by omega
          have hO8 := own_belowO hO b3
          have hrow := hide' (fun g hg => (hO.lt g hg).1)
          go_wp2_with (at_builtin; (try rw [hwB]); refine wpList_append_lies _ (by rfl) _ _ _ (by rfl) w5.heap.size 22 j0 _ 1 24 Try.underlying30 hj0 hy0 hy1 hy2 rfl (by omega) u14 i zs (by rfl) hO8 ⟨wr.heap.size, 0, none⟩ 1 1 [.slice p (ln V) (ln V)] (by rfl) (by rfl) (World.news_of_block (cs := #[.slice p (ln V) (ln V)]) (t := 22) (fr := (0, 0)) hnew) (by simp [Value.oneCell']) (by omega) (by simp only [maxLen]; omega) (by omega) hbb wB.heap.size rfl ?_)
          intro gb cap w9 hown hgr hat hlt4
          have I1 := hide' (show w9.ownsRow w5.heap.size 22 1 (.slice (some ⟨gb, 0, none⟩) (i + 1) cap) (i + 1) (rowc P Z (i + 1)) ∧ Below w5.heap.size w5 w9 from ⟨by rw [rowc_succ, hzs.out, hp.out, hV.out]; exact hown, (hB6.trans (b3.mono hB6.size)).trans (below_grownO hbb hrow.out hgr)⟩)
          clear hown hgr hat hnew b3 hO8 hrow hO hB6
          go_wp2
          go_roundw
          case rel => exact ⟨i + 1, by omega, by go_num, I1.out⟩
          case measure => simp [intOf]; omega
        · have ei : 14 = i := by omega
          subst ei
          have i2 : ¬ (((14 : Nat) : Int) < 14) := by omega
          obtain ⟨gb, cb, e4, hgb, _⟩ := hO.form (by omega)
          subst e4
          have b56 := b5.trans (hB6.mono b5.size)
          have HS := hide' (HLs.out.move b56 (Nat.le_trans b5.size hgb) (fun i hi => by rw [Nat.zero_add, hO.cellAt i (by omega), rowc_at hi]))
          have b46 := b4.trans (b56.mono b4.size)
          clear hO
          go_wp2_with fail
          refine (G6.out _ wI.heap.size gb cb P b46.size HS.out).mono ?_
          rintro e w7 ⟨rfl, b7⟩
          have b47 := b46.trans b7
          have q7 := q0.out.later b47
          have p7 := q1.out.later b47
          have s7 := hs0.later b47
          have t7 := hs1.later b47
          replace q7 := hide' q7
          replace p7 := hide' p7
          go_wp2_with fail
          refine (G7.out _ g0 r0 s7 q7.out).mono ?_
          rintro e w8 ⟨rfl, b8⟩
          replace t7 := t7.later b8
          go_wp2_with fail
          refine (G8.out _ g1 r1 t7 (p7.out.later b8)).mono ?_
          rintro e w9 ⟨rfl, b9⟩
          have I2 := hide' (show Below wL.heap.size wL w9 from hB.trans (((b47.trans (b8.mono b47.size)).trans (b9.mono (Nat.le_trans b47.size b8.size))).mono hB.size))
          go_wp2
          go_roundw
          case rel => exact ⟨k + 1, by omega, by go_num, I2.out⟩
          case measure => simp [intOf]; omega
    · have k2 : ¬ ((k : Int) < 2) := by omega
      go_wp2
      go_ret
      exact ⟨rfl, bel.trans (hB.mono bel.size)⟩
set_option maxRecDepth 100000 in
theorem contract (H : Type) (enc : TypeId × Value → H) (W : World) (base : Nat) (args : Array Value) (ds gs : List (DataW H)) (before : List MemPlace)
    (hval : ∀ (j : Nat) t v, Try.f3.params[j]? = some t → args[j]? = some v → Value.okWide Try.prog W .any base t v)
    (hW : DataW.Whole enc Try.prog Try.f3.params.toList Rows.natOwnSpec.vars false W args.toList ds gs before)
    (hsz : (DataW.weightsEach Try.prog (Try.f3.params.toList ++ Rows.natOwnSpec.plain.varTypes Try.prog) (ds ++ gs)).all (· ≤ reachBytes) = true) (hk : Rows.uptoSmall H (ds ++ gs) = true) :
    Calls Try.prog 3 args W fun e W' => ∃ v, e = .returned v ∧ Rows.natOwnSpec.post enc Try.prog Try.f3 false true false false W args v W' := by
  have hW' := hW
  obtain ⟨p, q, hA0, hV, rfl, hfz, hnd⟩ := hW
  have hA : DataW.TrodAll enc Try.prog W 0 (fun _ => true) true Try.f3.params.toList args.toList ds p := hA0
  rw [Try.params3] at hA hval hsz
  obtain ⟨v0, vs0, d0, ds0, p0, q0, hargs, rfl, rfl, h0, r0⟩ := trodAll_cons hA
  obtain ⟨v1, vs1, d1, ds1, p1, q1, rfl, rfl, rfl, h1, r1⟩ := trodAll_cons r0
  obtain ⟨v2, vs2, d2, ds2, p2, q2, rfl, rfl, rfl, h2, r2⟩ := trodAll_cons r1
  obtain ⟨rfl, rfl, rfl⟩ := trodAll_nil r2
  obtain rfl : args = #[v0, v1, v2] := by cases args; simp_all
  obtain ⟨rfl, rfl⟩ := trodVars_none hV
  obtain ⟨a0, len0, cap0, rfl⟩ := okWide_slice Try.underlying22 (hval 0 22 v0 rfl rfl)
  have lt0 : ∀ x ∈ p0, x.block < W.heap.size := by obtain ⟨m, hm⟩ := h0; exact DataW.trod_lt m _ _ _ hm
  obtain ⟨X0, hS0, hc0, hb0, hu0⟩ := open_nat Try.underlying22 h0 (fun elems spare h => sized_slice hsz (j := 0) (t := 22) (e := 34) rfl (by rw [h]; rfl) Try.underlying22)
  obtain ⟨a1, len1, cap1, rfl⟩ := okWide_slice Try.underlying22 (hval 1 22 v1 rfl rfl)
  have lt1 : ∀ x ∈ p1, x.block < W.heap.size := by obtain ⟨m, hm⟩ := h1; exact DataW.trod_lt m _ _ _ hm
  obtain ⟨X1, hS1, hc1, hb1, hu1⟩ := open_nat Try.underlying22 h1 (fun elems spare h => sized_slice hsz (j := 1) (t := 22) (e := 34) rfl (by rw [h]; rfl) Try.underlying22)
  obtain ⟨z2, rfl, rfl, rfl, w2⟩ := open_int Try.underlying5 (hval 2 5 v2 rfl rfl) h2
  have bz2 := bounds_u8 w2
  obtain ⟨n2, rfl⟩ : ∃ n : Nat, z2 = (n : Int) := ⟨z2.toNat, by omega⟩
  have hn2 : n2 < 256 := by omega
  clear hA0
  have hbulk := of_decide_eq_true hk
  simp only [List.append_nil, Rows.uptoBulkAll] at hbulk
  have hb0 : len0 ≤ 1048576 := by omega
  have hb1 : len1 ≤ 1048576 := by omega
  simp only [List.append_nil] at hW'
  refine (walk a0 len0 cap0 X0 a1 len1 cap1 X1 n2 W hS0 hc0 hb0 hS1 hc1 hb1 hn2).mono fun e W' ⟨he, bel⟩ => ?_
  subst he
  exact ⟨_, rfl, _, _, _, [], _, [], hW', trodAll_mk1 (shut_bool Try.underlying4 _), (trodAll_cons_mk (Below.trod laidOut (by kernel_rfl) (of_decide_eq_true (by kernel_rfl)) h0 bel lt0) (trodAll_cons_mk (Below.trod laidOut (by kernel_rfl) (of_decide_eq_true (by kernel_rfl)) h1 bel lt1) (trodAll_cons_mk (shut_int Try.underlying5 w2) trodAll_mk0))), rfl, bel.frame _, fun h => by cases h⟩

set_option maxRecDepth 100000 in
theorem lifted (os : Os) (started : os.Started) (H : Type) (enc : TypeId × Value → H) (F : Stop.Interp) :
    ReturnsInHanded {} Try.checked os 3 .any ((Rows.OpenSpec.upto Rows.natOwnSpec).pre6 enc Try.prog Try.f3 Rows.natOwnUptoRow.domain false) (((Rows.OpenSpec.upto Rows.natOwnSpec).at F).post enc Try.prog Try.f3 false true false false) := by
  refine returnsInHanded_of_cond_sized (C := Try.checked) (s := Rows.OpenSpec.upto Rows.natOwnSpec) (k := Rows.uptoSmall) rfl own started (by kernel_rfl) Try.func3
    (OpenSpec.witness (enc := enc) (C := Try.checked) (s := Rows.OpenSpec.upto Rows.natOwnSpec) (k := Rows.uptoSmall) rfl false ⟨#[], #[.slice none 0 0, .slice none 0 0, .int .u8 0], []⟩ 8 (by kernel_rfl) (by kernel_rfl) (by kernel_rfl)
      (x := ([.nil, .nil, .lit (.int .u8 0)], [], [])) (by kernel_rfl) rfl (by kernel_rfl)) ?_
  intro W base args ds gs before hval hW _ hk hsz _
  exact contract H enc W base args ds gs before hval hW hsz hk

theorem over : Rows.natOwnUptoRow.holds Try.pinned (Rows.OpenSpec.upto Rows.natOwnSpec) :=
  OpenClaim.holds_of_cond 3 Try.f3 rfl rfl rfl rfl rfl rfl rfl ⟨rfl, rfl, rfl, rfl, rfl⟩ rfl rfl rfl rfl rfl (by kernel_rfl) Try.func3 (by kernel_rfl)
    (of_decide_eq_true (by kernel_rfl)) (by unfold Func.isWrapper; first | (rw [if_pos (by decide +kernel)]; kernel_rfl) | (rw [if_neg (by decide +kernel)]; exact ⟨rfl, rfl⟩))
    (fun os started H enc _ F => lifted os started H enc F)

end Go.Proofs.Ytechjealbccpbaa.natOwn
namespace Go.Proofs.Ytechjealbccpbaa
theorem natOwn_holds : Rows.NatOwnUptoSaid := natOwn.over
#print axioms natOwn_holds
end Go.Proofs.Ytechjealbccpbaa
