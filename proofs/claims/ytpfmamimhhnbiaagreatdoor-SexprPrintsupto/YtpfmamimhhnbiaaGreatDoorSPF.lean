/-
  Trees that came in, and trees that were read; how many tokens there are: Large.
-/
import Derived.Test.YtpfmamimhhnbiaaGreatDoorSXL
import Derived.Test.YtpfmamimhhnbiaaGreatDoorSPE
import Derived.Test.YtpfmamimhhnbiaaGreatDoorSP2
namespace Go.Proofs.YtpfmamimhhnbiaaGreatDoor
open Go.RowKit
set_option linter.unusedVariables false
set_option linter.unusedSimpArgs false
mutual
/-- how many tokens a node has -/
def szN : Nd → Nat
  | .mk t kids => if t.k = 0 then 2 + szL kids else 1
def szL : List Nd → Nat
  | [] => 0
  | n :: l => szN n + szL l
end
theorem szL_app (a b : List Nd) : szL (a ++ b) = szL a + szL b := by
  induction a with
  | nil => simp [szL]
  | cons n a ih => simp only [List.cons_append, szL, ih]; omega
theorem szL_take {l : List Nd} {k : Nat} (h : k < l.length) : szL (l.take (k + 1)) = szL (l.take k) + szN l[k] := by
  rw [List.take_add_one, List.getElem?_eq_getElem h, szL_app]
  simp [szL]
theorem szL_take_le (l : List Nd) (k : Nat) : szL (l.take k) ≤ szL l := by
  have := szL_app (l.take k) (l.drop k)
  rw [List.take_append_drop] at this
  omega
theorem nd_eta (n : Nd) : Nd.mk n.t n.kids = n := by cases n; rfl
set_option maxHeartbeats 2000000 in
theorem isList_is (t : Tok) (v : Value) (hv : ∃ a n c, v = .slice a n c) (w : World) : Calls Tryz.prog 19 #[.agg #[.int .i64 t.k, .string t.t, .int .i64 t.b, .int .i64 t.e, .int .i64 t.l, .int .i64 t.c, v]] w fun e w' => e = .returned (.bool ((t.k : Int) == 0)) ∧ Below w.heap.size w w' := by
  obtain ⟨a, m, c, rfl⟩ := hv
  have b1 := below_alloc (w := w) (.cells #[.int .i64 t.k, .string t.t, .int .i64 t.b, .int .i64 t.e, .int .i64 t.l, .int .i64 t.c, .slice a m c] 26)
  have qA := Blk.new w #[.int .i64 t.k, .string t.t, .int .i64 t.b, .int .i64 t.e, .int .i64 t.l, .int .i64 t.c, .slice a m c] 26
  go_enter Tryz.func19, Tryz.ntmps19
  go_upto_region 1 with fail
  generalize w.alloc (.cells #[.int .i64 t.k, .string t.t, .int .i64 t.b, .int .i64 t.e, .int .i64 t.l, .int .i64 t.c, .slice a m c] 26) = W at b1 qA ⊢
  have x0 := qA.cell 0
  simp only [List.getElem?_toArray, List.getElem?_cons_zero, List.getElem?_cons_succ] at x0
  go_wp2
  go_ret
  exact ⟨rfl, b1⟩

set_option maxHeartbeats 8000000 in
set_option maxRecDepth 100000 in
theorem size1 {w0 : World} {P : Nat → Prop} {v : Value} {kids : List Nd} (h1 : NdIn w0 P v kids) : ∀ (t : Tok) (w : World) (hB0 : Below w0.heap.size w0 w) (hz : szN (.mk t kids) ≤ 4611686018427387904), Calls Tryz.prog 9 #[.agg #[.int .i64 t.k, .string t.t, .int .i64 t.b, .int .i64 t.e, .int .i64 t.l, .int .i64 t.c, v]] w fun e w' => e = .returned (.int .i64 (szN (.mk t kids) : Nat)) ∧ Below w.heap.size w w' := by
  induction h1 with
  | nil a c =>
    intro t w hB0 hz
    clear hz
    have hB := below_alloc (w := w) (.cells #[.int .i64 t.k, .string t.t, .int .i64 t.b, .int .i64 t.e, .int .i64 t.l, .int .i64 t.c, .slice a 0 c] 26)
    have qA := Blk.new w #[.int .i64 t.k, .string t.t, .int .i64 t.b, .int .i64 t.e, .int .i64 t.l, .int .i64 t.c, .slice a 0 c] 26
    go_enter Tryz.func9, Tryz.ntmps9
    go_upto_region 1 with fail
    generalize w.alloc (.cells #[.int .i64 t.k, .string t.t, .int .i64 t.b, .int .i64 t.e, .int .i64 t.l, .int .i64 t.c, .slice a 0 c] 26) = W at hB qA ⊢
    have x0 := qA.cell 0
    have x1 := qA.cell 1
    have x2 := qA.cell 2
    have x3 := qA.cell 3
    have x4 := qA.cell 4
    have x5 := qA.cell 5
    have x6 := qA.cell 6
    simp only [List.getElem?_toArray, List.getElem?_cons_zero, List.getElem?_cons_succ] at x0 x1 x2 x3 x4 x5 x6
    go_wp2_with fail
    refine (isList_is t (.slice a 0 c) ⟨_, _, _, rfl⟩ W).mono ?_
    rintro e w1 ⟨rfl, b1⟩
    replace qA := qA.later b1
    replace hB := hB.trans (b1.mono hB.size)
    clear b1 x0 x1 x2 x3 x4 x5 x6
    have x6 := qA.cell 6
    simp only [List.getElem?_toArray, List.getElem?_cons_zero, List.getElem?_cons_succ] at x6
    by_cases hk0 : t.k = 0
    rotate_left
    · have xk : ((t.k : Int) == 0) = false := by rw [beq_eq_false_iff_ne]; omega
      have es : szN (.mk t []) = 1 := by simp [szN, hk0]
      have HS := hideT es
      clear es
      rw [xk]
      go_wp2
      go_ret
      exact ⟨by rw [HS.out]; rfl, hB⟩
    have xk : ((t.k : Int) == 0) = true := by rw [beq_iff_eq]; omega
    have HS := hideT (show szN (.mk t []) = 2 by simp [szN, szL, hk0])
    rw [xk]
    clear hk0
    go_wp2_with fail
    go_loopw [3, 12] (fun s i wr => s = .int .i64 2 ∧ i = .int .i64 0 ∧ Below w.heap.size w wr) (fun s i _ => 0)
    case atStart => exact ⟨rfl, rfl, hB⟩
    case round =>
      clear qA hB x6
      obtain ⟨rfl, rfl, hB⟩ := hrel
      go_wp2
      go_ret
      exact ⟨by rw [HS.out]; rfl, hB⟩
  | row g off c kids vs hn hb hP hc hv hk ih =>
    intro t w hB0 hz
    have IH := hideT ih
    have HC := hideT (And.intro hc hv)
    have HKS := hideT (fun i (h : i < kids.length) => (hk i h).sl)
    have HB0 := hideT hB0
    have HZ := hideT hz
    clear ih hc hv hk hP hB0 hz
    have hB := below_alloc (w := w) (.cells #[.int .i64 t.k, .string t.t, .int .i64 t.b, .int .i64 t.e, .int .i64 t.l, .int .i64 t.c, .slice (some ⟨g, off, none⟩) kids.length c] 26)
    have qA := Blk.new w #[.int .i64 t.k, .string t.t, .int .i64 t.b, .int .i64 t.e, .int .i64 t.l, .int .i64 t.c, .slice (some ⟨g, off, none⟩) kids.length c] 26
    go_enter Tryz.func9, Tryz.ntmps9
    go_upto_region 1 with fail
    generalize w.alloc (.cells #[.int .i64 t.k, .string t.t, .int .i64 t.b, .int .i64 t.e, .int .i64 t.l, .int .i64 t.c, .slice (some ⟨g, off, none⟩) kids.length c] 26) = W at hB qA ⊢
    have x0 := qA.cell 0
    have x1 := qA.cell 1
    have x2 := qA.cell 2
    have x3 := qA.cell 3
    have x4 := qA.cell 4
    have x5 := qA.cell 5
    have x6 := qA.cell 6
    simp only [List.getElem?_toArray, List.getElem?_cons_zero, List.getElem?_cons_succ] at x0 x1 x2 x3 x4 x5 x6
    go_wp2_with fail
    refine (isList_is t (.slice (some ⟨g, off, none⟩) kids.length c) ⟨_, _, _, rfl⟩ W).mono ?_
    rintro e w1 ⟨rfl, b1⟩
    replace qA := qA.later b1
    replace hB := hB.trans (b1.mono hB.size)
    clear b1 x0 x1 x2 x3 x4 x5 x6
    have x6 := qA.cell 6
    simp only [List.getElem?_toArray, List.getElem?_cons_zero, List.getElem?_cons_succ] at x6
    by_cases hk0 : t.k = 0
    rotate_left
    · have xk : ((t.k : Int) == 0) = false := by rw [beq_eq_false_iff_ne]; omega
      have es : szN (.mk t kids) = 1 := by simp [szN, hk0]
      have HS := hideT es
      clear es
      rw [xk]
      go_wp2
      go_ret
      exact ⟨by rw [HS.out]; rfl, hB⟩
    have xk : ((t.k : Int) == 0) = true := by rw [beq_iff_eq]; omega
    have HS := hideT (show szN (.mk t kids) = 2 + szL kids by simp [szN, hk0])
    have HZ2 := hideT (show 2 + szL kids ≤ 4611686018427387904 by rw [← HS.out]; exact HZ.out)
    rw [xk]
    clear hk0 HZ
    go_wp2_with fail
    go_loopw [3, 12] (fun s i wr => ∃ k m : Nat, k ≤ kids.length ∧ i = .int .i64 k ∧ s = .int .i64 m ∧ m = 2 + szL (kids.take k) ∧ Below w.heap.size w wr) (fun s i _ => kids.length - (intOf i).toNat)
    case atStart => exact ⟨0, 2, Nat.zero_le _, rfl, rfl, by simp [szL], hB⟩
    case round =>
      clear qA hB x6
      obtain ⟨k, m, hk, rfl, rfl, hm, hB⟩ := hrel
      have HM := hideT hm
      clear hm
      by_cases hlt : k < kids.length
      · have hki : ((k : Int) < (kids.length : Int)) := by omega
        have h0 := HB0.out.trans (hB.mono HB0.out.size)
        obtain ⟨hc, hv⟩ := HC.out
        obtain ⟨T, hT⟩ : ∃ T, kids[k].t = T := ⟨_, rfl⟩
        have a0 := hc k hlt 0 (by decide)
        have a1 := hc k hlt 1 (by decide)
        have a2 := hc k hlt 2 (by decide)
        have a3 := hc k hlt 3 (by decide)
        have a4 := hc k hlt 4 (by decide)
        have a5 := hc k hlt 5 (by decide)
        rw [hT] at a0 a1 a2 a3 a4 a5
        simp only [Tok.cells, List.getElem?_cons_zero, List.getElem?_cons_succ] at a0 a1 a2 a3 a4 a5
        rw [Nat.add_zero] at a0
        have a6 := hv k hlt
        replace a0 := below_cell h0 a0
        replace a1 := below_cell h0 a1
        replace a2 := below_cell h0 a2
        replace a3 := below_cell h0 a3
        replace a4 := below_cell h0 a4
        replace a5 := below_cell h0 a5
        replace a6 := below_cell h0 a6
        have e1 : szN kids[k] = szN (.mk T kids[k].kids) := by rw [← hT, nd_eta]
        have e2 := szL_take hlt
        have e3 := szL_take_le kids (k + 1)
        have e4 := HZ2.out
        have e5 := HM.out
        have GI := hideT (fun W h => IH.out k hlt T W h (by omega))
        obtain ⟨sz, hsz⟩ : ∃ sz, szN (.mk T kids[k].kids) = sz := ⟨_, rfl⟩
        rw [hsz] at GI e1
        have HN := hideT (show m + sz = 2 + szL (kids.take (k + 1)) by omega)
        have HL := hideT (show m + sz ≤ 4611686018427387904 by omega)
        have hl1 : m ≤ 4611686018427387904 := by omega
        have hl2 : sz ≤ 4611686018427387904 := by omega
        clear hsz e1 e2 e3 e4 e5 hT hc hv
        obtain ⟨ua, uc, eu⟩ := HKS.out k hlt
        obtain ⟨un, hun⟩ : ∃ un, kids[k].kids.length = un := ⟨_, rfl⟩
        rw [hun] at eu
        rw [eu] at a6 GI
        clear eu hun
        have bN := below_alloc (w := wr) (.cells #[.int .i64 T.k, .string T.t, .int .i64 T.b, .int .i64 T.e, .int .i64 T.l, .int .i64 T.c, .slice ua un uc] 26)
        have qN := Blk.new wr #[.int .i64 T.k, .string T.t, .int .i64 T.b, .int .i64 T.e, .int .i64 T.l, .int .i64 T.c, .slice ua un uc] 26
        replace hB := hB.trans (bN.mono hB.size)
        have HW := hideT (h0.trans (bN.mono h0.size))
        clear bN h0
        go_upto_region 7 with fail
        generalize wr.alloc (.cells #[.int .i64 T.k, .string T.t, .int .i64 T.b, .int .i64 T.e, .int .i64 T.l, .int .i64 T.c, .slice ua un uc] 26) = W2 at qN hB HW ⊢
        clear a0 a1 a2 a3 a4 a5 a6
        have y0 := qN.cell 0
        have y1 := qN.cell 1
        have y2 := qN.cell 2
        have y3 := qN.cell 3
        have y4 := qN.cell 4
        have y5 := qN.cell 5
        have y6 := qN.cell 6
        simp only [List.getElem?_toArray, List.getElem?_cons_zero, List.getElem?_cons_succ] at y0 y1 y2 y3 y4 y5 y6
        go_wp2_with fail
        refine (GI.out _ HW.out).mono ?_
        rintro e w5 ⟨rfl, b5⟩
        replace hB := hB.trans (b5.mono hB.size)
        have hl3 := HL.out
        go_wp2
        go_roundw
        case rel => exact ⟨k + 1, m + sz, by omega, by go_num, by go_num, HN.out, hB⟩
        case measure => simp [intOf]; omega
      · have hki : ¬ ((k : Int) < (kids.length : Int)) := by omega
        have ek : k = kids.length := by omega
        have HR := hideT (show szN (.mk t kids) = m by rw [HS.out, HM.out, ek, List.take_length])
        clear ek
        go_wp2
        go_ret
        exact ⟨by rw [HR.out]; rfl, hB⟩

end Go.Proofs.YtpfmamimhhnbiaaGreatDoor

namespace Go.Proofs.YtpfmamimhhnbiaaGreatDoor
open Go.RowKit
set_option linter.unusedVariables false
set_option linter.unusedSimpArgs false
def liveT : List UInt8 := [40, 97, 32, 40, 98, 41, 41]
set_option maxRecDepth 100000 in
theorem live_e : (readG liveT).2 = (0, 0) := by kernel_rfl
def Nd.shape2 : List Nd → Option (Nat × Nat)
  | [n] => some (n.t.k, szN n)
  | _ => none
set_option maxRecDepth 100000 in
theorem live_n : Nd.shape2 (readG liveT).1 = some (0, 6) := by kernel_rfl
theorem live_one : ∃ t kids, (readG liveT).1 = [.mk t kids] ∧ szN (.mk t kids) = 6 := by
  have h := live_n
  generalize (readG liveT).1 = l at h
  match l, h with
  | [n], h =>
    simp only [Nd.shape2, Option.some.injEq, Prod.mk.injEq] at h
    exact ⟨n.t, n.kids, by rw [nd_eta], by rw [nd_eta]; exact h.2⟩
set_option maxHeartbeats 8000000 in
set_option maxRecDepth 100000 in
theorem lives_is (w : World) (hM : MaxL w) (hmx : mxB < w.heap.size) : Calls Tryz.prog 8 #[] w fun e w' => e = .returned (.bool true) ∧ Below w.heap.size w w' := by
  have G := hideT (read_is ⟨#[40, 97, 32, 40, 98, 41, 41]⟩ w (by decide) hM hmx)
  obtain ⟨t, kids, hl, hz⟩ := live_one
  rw [show (⟨#[40, 97, 32, 40, 98, 41, 41]⟩ : ByteArray).data.toList = liveT from rfl, live_e, hl] at G
  clear hl
  go_enter Tryz.func8, Tryz.ntmps8
  go_wp2_with fail
  refine G.out.mono ?_
  rintro e w1 ⟨v, rfl, ⟨K, Q, tl, tq⟩, b1⟩
  clear G
  have hk1 := tl.kn.1
  simp only [List.length_cons, List.length_nil] at hk1
  obtain ⟨g, c, ev, hcc⟩ := own_form tl.own (by omega)
  have kn0 := tl.kn.2 0 (by omega) (by simp)
  obtain ⟨k1, k2⟩ := kn0
  simp only [List.getElem_cons_zero, Nd.t, Nd.kids] at k1 k2
  obtain ⟨ua, uc, eu⟩ := k2.sl
  have a0 : w1.cell? ⟨g, 0, none⟩ = (t.cells)[0]? := by have h := (ev ▸ tl.own : w1.ownsRow w.heap.size 26 7 (.slice (some ⟨g, 0, none⟩) K.length c) K.length (nvCells K)).cellAt 0 (by omega); rw [h, show 0 = 0 * 7 + 0 from rfl, nv_get K 0 0 (by omega) (by omega), k1]; rfl
  have a1 : w1.cell? ⟨g, 1, none⟩ = (t.cells)[1]? := by have h := (ev ▸ tl.own : w1.ownsRow w.heap.size 26 7 (.slice (some ⟨g, 0, none⟩) K.length c) K.length (nvCells K)).cellAt 1 (by omega); rw [h, show 1 = 0 * 7 + 1 from rfl, nv_get K 0 1 (by omega) (by omega), k1]; rfl
  have a2 : w1.cell? ⟨g, 2, none⟩ = (t.cells)[2]? := by have h := (ev ▸ tl.own : w1.ownsRow w.heap.size 26 7 (.slice (some ⟨g, 0, none⟩) K.length c) K.length (nvCells K)).cellAt 2 (by omega); rw [h, show 2 = 0 * 7 + 2 from rfl, nv_get K 0 2 (by omega) (by omega), k1]; rfl
  have a3 : w1.cell? ⟨g, 3, none⟩ = (t.cells)[3]? := by have h := (ev ▸ tl.own : w1.ownsRow w.heap.size 26 7 (.slice (some ⟨g, 0, none⟩) K.length c) K.length (nvCells K)).cellAt 3 (by omega); rw [h, show 3 = 0 * 7 + 3 from rfl, nv_get K 0 3 (by omega) (by omega), k1]; rfl
  have a4 : w1.cell? ⟨g, 4, none⟩ = (t.cells)[4]? := by have h := (ev ▸ tl.own : w1.ownsRow w.heap.size 26 7 (.slice (some ⟨g, 0, none⟩) K.length c) K.length (nvCells K)).cellAt 4 (by omega); rw [h, show 4 = 0 * 7 + 4 from rfl, nv_get K 0 4 (by omega) (by omega), k1]; rfl
  have a5 : w1.cell? ⟨g, 5, none⟩ = (t.cells)[5]? := by have h := (ev ▸ tl.own : w1.ownsRow w.heap.size 26 7 (.slice (some ⟨g, 0, none⟩) K.length c) K.length (nvCells K)).cellAt 5 (by omega); rw [h, show 5 = 0 * 7 + 5 from rfl, nv_get K 0 5 (by omega) (by omega), k1]; rfl
  have a6 : w1.cell? ⟨g, 6, none⟩ = some (.slice ua kids.length uc) := by have h := (ev ▸ tl.own : w1.ownsRow w.heap.size 26 7 (.slice (some ⟨g, 0, none⟩) K.length c) K.length (nvCells K)).cellAt 6 (by omega); rw [h, show 6 = 0 * 7 + 6 from rfl, nv_get K 0 6 (by omega) (by omega), ← eu]; rfl
  simp only [Tok.cells, List.getElem?_cons_zero, List.getElem?_cons_succ] at a0 a1 a2 a3 a4 a5
  have GS := hideT (size1 k2 t w1 (Below.refl _ _) (by rw [hz]; decide))
  rw [hz, eu] at GS
  have hkl : K.length = 1 := hk1
  subst ev
  rw [hkl]
  clear hk1 hkl k1 k2 eu tl tq hz
  go_wp2_with fail
  refine GS.out.mono ?_
  rintro e w2 ⟨rfl, b2⟩
  go_wp2
  go_ret
  exact ⟨rfl, b1.trans (b2.mono b1.size)⟩

end Go.Proofs.YtpfmamimhhnbiaaGreatDoor

namespace Go.Proofs.YtpfmamimhhnbiaaGreatDoor
open Go.RowKit
set_option linter.unusedVariables false
set_option linter.unusedSimpArgs false
theorem ZIn.on {w w' : World} {v : Value} {l : List NdZ} (h : ZIn w v l) (hb : Below w.heap.size w w') : ZIn w' v l := by
  induction h with
  | mk a g off c kids vs ha hl hc hv _ ih =>
    refine .mk a g off c kids vs ha hl (fun i h j hj => ?_) (fun i h => below_cell hb (hv i h)) ih
    have h1 := hc i h j hj
    have h2 : j < ((kids[i].t).cells).length := by simpa [TokZ.cells] using hj
    rw [List.getElem?_eq_getElem h2] at h1 ⊢
    exact below_cell hb h1
theorem toT_cells (T : Tok) : (toT T).cells = T.cells := rfl
theorem NdIn.toZ {w : World} {P : Nat → Prop} {v : Value} {l : List Nd} (h : NdIn w P v l) : ZIn w v (toZL l) := by
  induction h with
  | nil a c => exact .mk a 0 0 c [] (fun _ => .slice none 0 0) (fun h => absurd h (by simp)) (by simp) (fun i h => absurd h (by simp)) (fun i h => absurd h (by simp)) (fun i h => absurd h (by simp))
  | row g off c kids vs hn hb hP hc hv hk ih =>
    have hl := toZL_len kids
    have Z := ZIn.mk (w := w) (some ⟨g, off, none⟩) g off c (toZL kids) vs (fun _ => rfl) (by rw [hl]; exact hb)
      (fun i h j hj => by
        have h2 : i < kids.length := by rw [← hl]; exact h
        rw [toZL_at kids i h2 h, toZ_t, toT_cells]
        exact hc i h2 j hj)
      (fun i h => hv i (by rw [← hl]; exact h))
      (fun i h => by
        have h2 : i < kids.length := by rw [← hl]; exact h
        rw [toZL_at kids i h2 h, toZ_kids]
        exact ih i h2)
    rw [hl] at Z
    exact Z
theorem toZ_eq (m : Nd) : toZ m = .mk (toT m.t) (toZL m.kids) := by cases m; rfl
theorem ctL_app (a b : List NdZ) : ctL (a ++ b) = ctL a + ctL b := by
  induction a with
  | nil => simp [ctL]
  | cons x a ih => simp only [List.cons_append, ctL, ih]; omega
theorem ctL_take {l : List NdZ} {k : Nat} (h : k < l.length) : ctL (l.take (k + 1)) = ctL (l.take k) + ctZ l[k] := by
  rw [List.take_add_one, List.getElem?_eq_getElem h, ctL_app]
  simp [ctL]
theorem ctL_take_le (l : List NdZ) (k : Nat) : ctL (l.take k) ≤ ctL l := by
  have := ctL_app (l.take k) (l.drop k)
  rw [List.take_append_drop] at this
  omega
set_option maxHeartbeats 8000000 in
set_option maxRecDepth 100000 in
theorem count_is {w0 : World} {v : Value} {kids : List NdZ} (h1 : ZIn w0 v kids) : ∀ (t : TokZ) (H R : Nat) (w : World) (hB0 : Below w0.heap.size w0 w) (hR : H + ctZ (.mk t kids) = R) (hl : R ≤ 1048576), Calls Tryz.prog 10 #[.agg #[.int .i64 t.k, .string t.t, .int .i64 t.b, .int .i64 t.e, .int .i64 t.l, .int .i64 t.c, v], .int .i64 H] w fun e w' => e = .returned (.int .i64 R) ∧ Below w.heap.size w w' := by
  induction h1 with
  | mk a g off c kids vs ha hb hc hv hk ih =>
    intro t H R w hB0 hR hl
    have IH := hideT ih
    have HC := hideT (And.intro hc hv)
    have HKS := hideT (fun i (h : i < kids.length) => (hk i h).sh)
    have HB0 := hideT hB0
    have HA := hideT ha
    have HR := hideT (show H + 1 + ctL kids = R by simp only [ctZ] at hR; omega)
    have hH : H ≤ 1048575 := by have := HR.out; omega
    have HLL := hideT hl
    clear ih hc hv hk hB0 ha hR hl
    have hB := below_alloc (w := w) (.cells #[.int .i64 t.k, .string t.t, .int .i64 t.b, .int .i64 t.e, .int .i64 t.l, .int .i64 t.c, .slice a kids.length c] 26)
    have qA := Blk.new w #[.int .i64 t.k, .string t.t, .int .i64 t.b, .int .i64 t.e, .int .i64 t.l, .int .i64 t.c, .slice a kids.length c] 26
    go_enter Tryz.func10, Tryz.ntmps10
    go_upto_region 1 with fail
    generalize w.alloc (.cells #[.int .i64 t.k, .string t.t, .int .i64 t.b, .int .i64 t.e, .int .i64 t.l, .int .i64 t.c, .slice a kids.length c] 26) = W at hB qA ⊢
    go_wp2_with fail
    go_loopw [1, 5] (fun m i wr => ∃ k m0 : Nat, k ≤ kids.length ∧ i = .int .i64 k ∧ m = .int .i64 m0 ∧ H + 1 + ctL (kids.take k) = m0 ∧ Blk wr w.heap.size #[.int .i64 t.k, .string t.t, .int .i64 t.b, .int .i64 t.e, .int .i64 t.l, .int .i64 t.c, .slice a kids.length c] 26 ∧ Below w.heap.size w wr) (fun m i _ => kids.length - (intOf i).toNat)
    case atStart => exact ⟨0, H + 1, Nat.zero_le _, rfl, by go_num, by simp [ctL], qA, hB⟩
    case round =>
      clear qA hB
      obtain ⟨k, m0, hk, rfl, rfl, hm, qA, hB⟩ := hrel
      have hm1 : m0 ≤ 1048576 := by have := ctL_take_le kids k; have := HR.out; have := HLL.out; omega
      have HM := hideT hm
      clear hm
      have x6 := qA.cell 6
      simp only [List.getElem?_toArray, List.getElem?_cons_zero, List.getElem?_cons_succ] at x6
      have hmi : ((m0 : Int) ≤ 1048576) := by omega
      by_cases hlt : k < kids.length
      · have hki : ((k : Int) < (kids.length : Int)) := by omega
        have ea := HA.out (by omega)
        subst ea
        have h0 := HB0.out.trans (hB.mono HB0.out.size)
        obtain ⟨hc, hv⟩ := HC.out
        obtain ⟨T, hT⟩ : ∃ T, kids[k].t = T := ⟨_, rfl⟩
        have a0 := hc k hlt 0 (by decide)
        have a1 := hc k hlt 1 (by decide)
        have a2 := hc k hlt 2 (by decide)
        have a3 := hc k hlt 3 (by decide)
        have a4 := hc k hlt 4 (by decide)
        have a5 := hc k hlt 5 (by decide)
        rw [hT] at a0 a1 a2 a3 a4 a5
        simp only [TokZ.cells, List.getElem?_cons_zero, List.getElem?_cons_succ] at a0 a1 a2 a3 a4 a5
        rw [Nat.add_zero] at a0
        have a6 := hv k hlt
        replace a0 := below_cell h0 a0
        replace a1 := below_cell h0 a1
        replace a2 := below_cell h0 a2
        replace a3 := below_cell h0 a3
        replace a4 := below_cell h0 a4
        replace a5 := below_cell h0 a5
        replace a6 := below_cell h0 a6
        have e1 : NdZ.mk T kids[k].kids = kids[k] := by rw [← hT, ndz_eta]
        have hnx : m0 + ctZ kids[k] = H + 1 + ctL (kids.take (k + 1)) := by have := ctL_take hlt; have := HM.out; omega
        obtain ⟨R2, hR2⟩ : ∃ R2, m0 + ctZ kids[k] = R2 := ⟨_, rfl⟩
        have GI := hideT (IH.out k hlt T m0 R2 wr h0 (by rw [e1]; exact hR2) (by have := ctL_take_le kids (k + 1); have := HR.out; have := HLL.out; omega))
        have HN := hideT (show H + 1 + ctL (kids.take (k + 1)) = R2 by omega)
        clear hT hc hv e1 hnx hR2 h0
        obtain ⟨ua, uc, eu⟩ := HKS.out k hlt
        obtain ⟨un, hun⟩ : ∃ un, kids[k].kids.length = un := ⟨_, rfl⟩
        rw [hun] at eu
        rw [eu] at a6 GI
        clear eu hun
        go_wp2_with fail
        refine GI.out.mono ?_
        rintro e w5 ⟨rfl, b5⟩
        replace hB := hB.trans (b5.mono hB.size)
        replace qA := qA.later b5
        clear b5 GI x6 a0 a1 a2 a3 a4 a5 a6
        go_wp2
        go_roundw
        case rel => exact ⟨k + 1, R2, by omega, by go_num, rfl, HN.out, qA, hB⟩
        case measure => simp [intOf]; omega
      · have hki : ¬ ((k : Int) < (kids.length : Int)) := by omega
        have e2 : ctL (kids.take k) = ctL kids := by rw [List.take_of_length_le (by omega)]
        have hmr : m0 = R := by have := HM.out; have := HR.out; omega
        clear e2
        subst hmr
        go_wp2
        go_ret
        exact ⟨rfl, hB⟩

set_option maxHeartbeats 4000000 in
set_option maxRecDepth 100000 in
theorem large_is {v : Value} {kids : List NdZ} (t : TokZ) (w : World) (h : ZIn w v kids) (hl : wgZ (.mk t kids) ≤ 1048576) : Calls Tryz.prog 4 #[.agg #[.int .i64 t.k, .string t.t, .int .i64 t.b, .int .i64 t.e, .int .i64 t.l, .int .i64 t.c, v]] w fun e w' => e = .returned (.bool false) ∧ Below w.heap.size w w' := by
  obtain ⟨a, c, ev⟩ := h.sh
  have hct := ct_wg (.mk t kids)
  have hz : ctZ (.mk t kids) ≤ 1048576 := by omega
  have G := hideT (fun W hW => count_is h t 0 (ctZ (.mk t kids)) W hW (Nat.zero_add _) hz)
  subst ev
  clear hl hct h
  generalize ctZ (.mk t kids) = R at G hz
  have hB := below_alloc (w := w) (.cells #[.int .i64 t.k, .string t.t, .int .i64 t.b, .int .i64 t.e, .int .i64 t.l, .int .i64 t.c, .slice a kids.length c] 26)
  have qA := Blk.new w #[.int .i64 t.k, .string t.t, .int .i64 t.b, .int .i64 t.e, .int .i64 t.l, .int .i64 t.c, .slice a kids.length c] 26
  go_enter Tryz.func4, Tryz.ntmps4
  go_upto_region 1 with fail
  generalize w.alloc (.cells #[.int .i64 t.k, .string t.t, .int .i64 t.b, .int .i64 t.e, .int .i64 t.l, .int .i64 t.c, .slice a kids.length c] 26) = W at hB qA ⊢
  have x0 := qA.cell 0
  have x1 := qA.cell 1
  have x2 := qA.cell 2
  have x3 := qA.cell 3
  have x4 := qA.cell 4
  have x5 := qA.cell 5
  have x6 := qA.cell 6
  simp only [List.getElem?_toArray, List.getElem?_cons_zero, List.getElem?_cons_succ] at x0 x1 x2 x3 x4 x5 x6
  have hzi : ¬ ((R : Int) > 1048576) := by omega
  go_wp2_with fail
  refine (G.out W hB).mono ?_
  rintro e w1 ⟨rfl, b1⟩
  go_wp2
  go_ret
  exact ⟨by first | rfl | (simp; omega), hB.trans (b1.mono hB.size)⟩

end Go.Proofs.YtpfmamimhhnbiaaGreatDoor
