/-
  The reference's Read; SexprReads and SexprDeep: the walks.
-/
import Derived.Test.YtibeiggedmabkaaDoorSXL
import Derived.Test.YtibeiggedmabkaaDoorSZ5
namespace Go.Proofs.YtibeiggedmabkaaDoor
open Go.RowKit
set_option linter.unusedVariables false
set_option linter.unusedSimpArgs false
mutual
/-- how many tokens a node has -/
def szN : Nd → Nat
  | .mk t kids => if t.k = 0 then 2 + szL kids else 1
def szL : List Nd → Nat
  | [] => 0
  | n :: l => szN n + szL l
end
theorem szL_app (a b : List Nd) : szL (a ++ b) = szL a + szL b := by
  induction a with
  | nil => simp [szL]
  | cons n a ih => simp only [List.cons_append, szL, ih]; omega
theorem szL_take {l : List Nd} {k : Nat} (h : k < l.length) : szL (l.take (k + 1)) = szL (l.take k) + szN l[k] := by
  rw [List.take_add_one, List.getElem?_eq_getElem h, szL_app]
  simp [szL]
theorem szL_take_le (l : List Nd) (k : Nat) : szL (l.take k) ≤ szL l := by
  have := szL_app (l.take k) (l.drop k)
  rw [List.take_append_drop] at this
  omega
theorem nd_eta (n : Nd) : Nd.mk n.t n.kids = n := by cases n; rfl
set_option maxHeartbeats 2000000 in
theorem isList_is (t : Tok) (v : Value) (hv : ∃ a n c, v = .slice a n c) (w : World) : Calls Tryd.prog 24 #[.agg #[.int .i64 t.k, .string t.t, .int .i64 t.b, .int .i64 t.e, .int .i64 t.l, .int .i64 t.c, v]] w fun e w' => e = .returned (.bool ((t.k : Int) == 0)) ∧ Below w.heap.size w w' := by
  obtain ⟨a, m, c, rfl⟩ := hv
  have b1 := below_alloc (w := w) (.cells #[.int .i64 t.k, .string t.t, .int .i64 t.b, .int .i64 t.e, .int .i64 t.l, .int .i64 t.c, .slice a m c] 34)
  have qA := Blk.new w #[.int .i64 t.k, .string t.t, .int .i64 t.b, .int .i64 t.e, .int .i64 t.l, .int .i64 t.c, .slice a m c] 34
  go_enter Tryd.func24, Tryd.ntmps24
  go_upto_region 1 with fail
  generalize w.alloc (.cells #[.int .i64 t.k, .string t.t, .int .i64 t.b, .int .i64 t.e, .int .i64 t.l, .int .i64 t.c, .slice a m c] 34) = W at b1 qA ⊢
  have x0 := qA.cell 0
  simp only [List.getElem?_toArray, List.getElem?_cons_zero, List.getElem?_cons_succ] at x0
  go_wp2
  go_ret
  exact ⟨rfl, b1⟩

set_option maxHeartbeats 8000000 in
set_option maxRecDepth 100000 in
theorem size1 {w0 : World} {P : Nat → Prop} {v : Value} {kids : List Nd} (h1 : NdIn w0 P v kids) : ∀ (t : Tok) (w : World) (hB0 : Below w0.heap.size w0 w) (hz : szN (.mk t kids) ≤ 4611686018427387904), Calls Tryd.prog 22 #[.agg #[.int .i64 t.k, .string t.t, .int .i64 t.b, .int .i64 t.e, .int .i64 t.l, .int .i64 t.c, v]] w fun e w' => e = .returned (.int .i64 (szN (.mk t kids) : Nat)) ∧ Below w.heap.size w w' := by
  induction h1 with
  | nil a c =>
    intro t w hB0 hz
    clear hz
    have hB := below_alloc (w := w) (.cells #[.int .i64 t.k, .string t.t, .int .i64 t.b, .int .i64 t.e, .int .i64 t.l, .int .i64 t.c, .slice a 0 c] 34)
    have qA := Blk.new w #[.int .i64 t.k, .string t.t, .int .i64 t.b, .int .i64 t.e, .int .i64 t.l, .int .i64 t.c, .slice a 0 c] 34
    go_enter Tryd.func22, Tryd.ntmps22
    go_upto_region 1 with fail
    generalize w.alloc (.cells #[.int .i64 t.k, .string t.t, .int .i64 t.b, .int .i64 t.e, .int .i64 t.l, .int .i64 t.c, .slice a 0 c] 34) = W at hB qA ⊢
    have x0 := qA.cell 0
    have x1 := qA.cell 1
    have x2 := qA.cell 2
    have x3 := qA.cell 3
    have x4 := qA.cell 4
    have x5 := qA.cell 5
    have x6 := qA.cell 6
    simp only [List.getElem?_toArray, List.getElem?_cons_zero, List.getElem?_cons_succ] at x0 x1 x2 x3 x4 x5 x6
    go_wp2_with fail
    refine (isList_is t (.slice a 0 c) ⟨_, _, _, rfl⟩ W).mono ?_
    rintro e w1 ⟨rfl, b1⟩
    replace qA := qA.later b1
    replace hB := hB.trans (b1.mono hB.size)
    clear b1 x0 x1 x2 x3 x4 x5 x6
    have x6 := qA.cell 6
    simp only [List.getElem?_toArray, List.getElem?_cons_zero, List.getElem?_cons_succ] at x6
    by_cases hk0 : t.k = 0
    rotate_left
    · have xk : ((t.k : Int) == 0) = false := by rw [beq_eq_false_iff_ne]; omega
      have es : szN (.mk t []) = 1 := by simp [szN, hk0]
      have HS := hideT es
      clear es
      rw [xk]
      go_wp2
      go_ret
      exact ⟨by rw [HS.out]; rfl, hB⟩
    have xk : ((t.k : Int) == 0) = true := by rw [beq_iff_eq]; omega
    have HS := hideT (show szN (.mk t []) = 2 by simp [szN, szL, hk0])
    rw [xk]
    clear hk0
    go_wp2_with fail
    go_loopw [3, 12] (fun s i wr => s = .int .i64 2 ∧ i = .int .i64 0 ∧ Below w.heap.size w wr) (fun s i _ => 0)
    case atStart => exact ⟨rfl, rfl, hB⟩
    case round =>
      clear qA hB x6
      obtain ⟨rfl, rfl, hB⟩ := hrel
      go_wp2
      go_ret
      exact ⟨by rw [HS.out]; rfl, hB⟩
  | row g off c kids vs hn hb hP hc hv hk ih =>
    intro t w hB0 hz
    have IH := hideT ih
    have HC := hideT (And.intro hc hv)
    have HKS := hideT (fun i (h : i < kids.length) => (hk i h).sl)
    have HB0 := hideT hB0
    have HZ := hideT hz
    clear ih hc hv hk hP hB0 hz
    have hB := below_alloc (w := w) (.cells #[.int .i64 t.k, .string t.t, .int .i64 t.b, .int .i64 t.e, .int .i64 t.l, .int .i64 t.c, .slice (some ⟨g, off, none⟩) kids.length c] 34)
    have qA := Blk.new w #[.int .i64 t.k, .string t.t, .int .i64 t.b, .int .i64 t.e, .int .i64 t.l, .int .i64 t.c, .slice (some ⟨g, off, none⟩) kids.length c] 34
    go_enter Tryd.func22, Tryd.ntmps22
    go_upto_region 1 with fail
    generalize w.alloc (.cells #[.int .i64 t.k, .string t.t, .int .i64 t.b, .int .i64 t.e, .int .i64 t.l, .int .i64 t.c, .slice (some ⟨g, off, none⟩) kids.length c] 34) = W at hB qA ⊢
    have x0 := qA.cell 0
    have x1 := qA.cell 1
    have x2 := qA.cell 2
    have x3 := qA.cell 3
    have x4 := qA.cell 4
    have x5 := qA.cell 5
    have x6 := qA.cell 6
    simp only [List.getElem?_toArray, List.getElem?_cons_zero, List.getElem?_cons_succ] at x0 x1 x2 x3 x4 x5 x6
    go_wp2_with fail
    refine (isList_is t (.slice (some ⟨g, off, none⟩) kids.length c) ⟨_, _, _, rfl⟩ W).mono ?_
    rintro e w1 ⟨rfl, b1⟩
    replace qA := qA.later b1
    replace hB := hB.trans (b1.mono hB.size)
    clear b1 x0 x1 x2 x3 x4 x5 x6
    have x6 := qA.cell 6
    simp only [List.getElem?_toArray, List.getElem?_cons_zero, List.getElem?_cons_succ] at x6
    by_cases hk0 : t.k = 0
    rotate_left
    · have xk : ((t.k : Int) == 0) = false := by rw [beq_eq_false_iff_ne]; omega
      have es : szN (.mk t kids) = 1 := by simp [szN, hk0]
      have HS := hideT es
      clear es
      rw [xk]
      go_wp2
      go_ret
      exact ⟨by rw [HS.out]; rfl, hB⟩
    have xk : ((t.k : Int) == 0) = true := by rw [beq_iff_eq]; omega
    have HS := hideT (show szN (.mk t kids) = 2 + szL kids by simp [szN, hk0])
    have HZ2 := hideT (show 2 + szL kids ≤ 4611686018427387904 by rw [← HS.out]; exact HZ.out)
    rw [xk]
    clear hk0 HZ
    go_wp2_with fail
    go_loopw [3, 12] (fun s i wr => ∃ k m : Nat, k ≤ kids.length ∧ i = .int .i64 k ∧ s = .int .i64 m ∧ m = 2 + szL (kids.take k) ∧ Below w.heap.size w wr) (fun s i _ => kids.length - (intOf i).toNat)
    case atStart => exact ⟨0, 2, Nat.zero_le _, rfl, rfl, by simp [szL], hB⟩
    case round =>
      clear qA hB x6
      obtain ⟨k, m, hk, rfl, rfl, hm, hB⟩ := hrel
      have HM := hideT hm
      clear hm
      by_cases hlt : k < kids.length
      · have hki : ((k : Int) < (kids.length : Int)) := by omega
        have h0 := HB0.out.trans (hB.mono HB0.out.size)
        obtain ⟨hc, hv⟩ := HC.out
        obtain ⟨T, hT⟩ : ∃ T, kids[k].t = T := ⟨_, rfl⟩
        have a0 := hc k hlt 0 (by decide)
        have a1 := hc k hlt 1 (by decide)
        have a2 := hc k hlt 2 (by decide)
        have a3 := hc k hlt 3 (by decide)
        have a4 := hc k hlt 4 (by decide)
        have a5 := hc k hlt 5 (by decide)
        rw [hT] at a0 a1 a2 a3 a4 a5
        simp only [Tok.cells, List.getElem?_cons_zero, List.getElem?_cons_succ] at a0 a1 a2 a3 a4 a5
        rw [Nat.add_zero] at a0
        have a6 := hv k hlt
        replace a0 := below_cell h0 a0
        replace a1 := below_cell h0 a1
        replace a2 := below_cell h0 a2
        replace a3 := below_cell h0 a3
        replace a4 := below_cell h0 a4
        replace a5 := below_cell h0 a5
        replace a6 := below_cell h0 a6
        have e1 : szN kids[k] = szN (.mk T kids[k].kids) := by rw [← hT, nd_eta]
        have e2 := szL_take hlt
        have e3 := szL_take_le kids (k + 1)
        have e4 := HZ2.out
        have e5 := HM.out
        have GI := hideT (fun W h => IH.out k hlt T W h (by omega))
        obtain ⟨sz, hsz⟩ : ∃ sz, szN (.mk T kids[k].kids) = sz := ⟨_, rfl⟩
        rw [hsz] at GI e1
        have HN := hideT (show m + sz = 2 + szL (kids.take (k + 1)) by omega)
        have HL := hideT (show m + sz ≤ 4611686018427387904 by omega)
        have hl1 : m ≤ 4611686018427387904 := by omega
        have hl2 : sz ≤ 4611686018427387904 := by omega
        clear hsz e1 e2 e3 e4 e5 hT hc hv
        obtain ⟨ua, uc, eu⟩ := HKS.out k hlt
        obtain ⟨un, hun⟩ : ∃ un, kids[k].kids.length = un := ⟨_, rfl⟩
        rw [hun] at eu
        rw [eu] at a6 GI
        clear eu hun
        have bN := below_alloc (w := wr) (.cells #[.int .i64 T.k, .string T.t, .int .i64 T.b, .int .i64 T.e, .int .i64 T.l, .int .i64 T.c, .slice ua un uc] 34)
        have qN := Blk.new wr #[.int .i64 T.k, .string T.t, .int .i64 T.b, .int .i64 T.e, .int .i64 T.l, .int .i64 T.c, .slice ua un uc] 34
        replace hB := hB.trans (bN.mono hB.size)
        have HW := hideT (h0.trans (bN.mono h0.size))
        clear bN h0
        go_upto_region 7 with fail
        generalize wr.alloc (.cells #[.int .i64 T.k, .string T.t, .int .i64 T.b, .int .i64 T.e, .int .i64 T.l, .int .i64 T.c, .slice ua un uc] 34) = W2 at qN hB HW ⊢
        clear a0 a1 a2 a3 a4 a5 a6
        have y0 := qN.cell 0
        have y1 := qN.cell 1
        have y2 := qN.cell 2
        have y3 := qN.cell 3
        have y4 := qN.cell 4
        have y5 := qN.cell 5
        have y6 := qN.cell 6
        simp only [List.getElem?_toArray, List.getElem?_cons_zero, List.getElem?_cons_succ] at y0 y1 y2 y3 y4 y5 y6
        go_wp2_with fail
        refine (GI.out _ HW.out).mono ?_
        rintro e w5 ⟨rfl, b5⟩
        replace hB := hB.trans (b5.mono hB.size)
        have hl3 := HL.out
        go_wp2
        go_roundw
        case rel => exact ⟨k + 1, m + sz, by omega, by go_num, by go_num, HN.out, hB⟩
        case measure => simp [intOf]; omega
      · have hki : ¬ ((k : Int) < (kids.length : Int)) := by omega
        have ek : k = kids.length := by omega
        have HR := hideT (show szN (.mk t kids) = m by rw [HS.out, HM.out, ek, List.take_length])
        clear ek
        go_wp2
        go_ret
        exact ⟨by rw [HR.out]; rfl, hB⟩

end Go.Proofs.YtibeiggedmabkaaDoor

namespace Go.Proofs.YtibeiggedmabkaaDoor
open Go.RowKit
set_option linter.unusedVariables false
set_option linter.unusedSimpArgs false
def liveT : List UInt8 := [40, 97, 32, 40, 98, 41, 41]
set_option maxRecDepth 100000 in
theorem live_e : (readG liveT).2 = (0, 0) := by kernel_rfl
def Nd.shape2 : List Nd → Option (Nat × Nat)
  | [n] => some (n.t.k, szN n)
  | _ => none
set_option maxRecDepth 100000 in
theorem live_n : Nd.shape2 (readG liveT).1 = some (0, 6) := by kernel_rfl
theorem live_one : ∃ t kids, (readG liveT).1 = [.mk t kids] ∧ szN (.mk t kids) = 6 := by
  have h := live_n
  generalize (readG liveT).1 = l at h
  match l, h with
  | [n], h =>
    simp only [Nd.shape2, Option.some.injEq, Prod.mk.injEq] at h
    exact ⟨n.t, n.kids, by rw [nd_eta], by rw [nd_eta]; exact h.2⟩
set_option maxHeartbeats 8000000 in
set_option maxRecDepth 100000 in
theorem lives_is (w : World) (hM : MaxL w) (hmx : mxB < w.heap.size) : Calls Tryd.prog 11 #[] w fun e w' => e = .returned (.bool true) ∧ Below w.heap.size w w' := by
  have G := hideT (read_is ⟨#[40, 97, 32, 40, 98, 41, 41]⟩ w (by decide) hM hmx)
  obtain ⟨t, kids, hl, hz⟩ := live_one
  rw [show (⟨#[40, 97, 32, 40, 98, 41, 41]⟩ : ByteArray).data.toList = liveT from rfl, live_e, hl] at G
  clear hl
  go_enter Tryd.func11, Tryd.ntmps11
  go_wp2_with fail
  refine G.out.mono ?_
  rintro e w1 ⟨v, rfl, ⟨K, Q, tl, tq⟩, b1⟩
  clear G
  have hk1 := tl.kn.1
  simp only [List.length_cons, List.length_nil] at hk1
  obtain ⟨g, c, ev, hcc⟩ := own_form tl.own (by omega)
  have kn0 := tl.kn.2 0 (by omega) (by simp)
  obtain ⟨k1, k2⟩ := kn0
  simp only [List.getElem_cons_zero, Nd.t, Nd.kids] at k1 k2
  obtain ⟨ua, uc, eu⟩ := k2.sl
  have a0 : w1.cell? ⟨g, 0, none⟩ = (t.cells)[0]? := by have h := (ev ▸ tl.own : w1.ownsRow w.heap.size 34 7 (.slice (some ⟨g, 0, none⟩) K.length c) K.length (nvCells K)).cellAt 0 (by omega); rw [h, show 0 = 0 * 7 + 0 from rfl, nv_get K 0 0 (by omega) (by omega), k1]; rfl
  have a1 : w1.cell? ⟨g, 1, none⟩ = (t.cells)[1]? := by have h := (ev ▸ tl.own : w1.ownsRow w.heap.size 34 7 (.slice (some ⟨g, 0, none⟩) K.length c) K.length (nvCells K)).cellAt 1 (by omega); rw [h, show 1 = 0 * 7 + 1 from rfl, nv_get K 0 1 (by omega) (by omega), k1]; rfl
  have a2 : w1.cell? ⟨g, 2, none⟩ = (t.cells)[2]? := by have h := (ev ▸ tl.own : w1.ownsRow w.heap.size 34 7 (.slice (some ⟨g, 0, none⟩) K.length c) K.length (nvCells K)).cellAt 2 (by omega); rw [h, show 2 = 0 * 7 + 2 from rfl, nv_get K 0 2 (by omega) (by omega), k1]; rfl
  have a3 : w1.cell? ⟨g, 3, none⟩ = (t.cells)[3]? := by have h := (ev ▸ tl.own : w1.ownsRow w.heap.size 34 7 (.slice (some ⟨g, 0, none⟩) K.length c) K.length (nvCells K)).cellAt 3 (by omega); rw [h, show 3 = 0 * 7 + 3 from rfl, nv_get K 0 3 (by omega) (by omega), k1]; rfl
  have a4 : w1.cell? ⟨g, 4, none⟩ = (t.cells)[4]? := by have h := (ev ▸ tl.own : w1.ownsRow w.heap.size 34 7 (.slice (some ⟨g, 0, none⟩) K.length c) K.length (nvCells K)).cellAt 4 (by omega); rw [h, show 4 = 0 * 7 + 4 from rfl, nv_get K 0 4 (by omega) (by omega), k1]; rfl
  have a5 : w1.cell? ⟨g, 5, none⟩ = (t.cells)[5]? := by have h := (ev ▸ tl.own : w1.ownsRow w.heap.size 34 7 (.slice (some ⟨g, 0, none⟩) K.length c) K.length (nvCells K)).cellAt 5 (by omega); rw [h, show 5 = 0 * 7 + 5 from rfl, nv_get K 0 5 (by omega) (by omega), k1]; rfl
  have a6 : w1.cell? ⟨g, 6, none⟩ = some (.slice ua kids.length uc) := by have h := (ev ▸ tl.own : w1.ownsRow w.heap.size 34 7 (.slice (some ⟨g, 0, none⟩) K.length c) K.length (nvCells K)).cellAt 6 (by omega); rw [h, show 6 = 0 * 7 + 6 from rfl, nv_get K 0 6 (by omega) (by omega), ← eu]; rfl
  simp only [Tok.cells, List.getElem?_cons_zero, List.getElem?_cons_succ] at a0 a1 a2 a3 a4 a5
  have GS := hideT (size1 k2 t w1 (Below.refl _ _) (by rw [hz]; decide))
  rw [hz, eu] at GS
  have hkl : K.length = 1 := hk1
  subst ev
  rw [hkl]
  clear hk1 hkl k1 k2 eu tl tq hz
  go_wp2_with fail
  refine GS.out.mono ?_
  rintro e w2 ⟨rfl, b2⟩
  go_wp2
  go_ret
  exact ⟨rfl, b1.trans (b2.mono b1.size)⟩

end Go.Proofs.YtibeiggedmabkaaDoor

namespace Go.Proofs.YtibeiggedmabkaaDoor
open Go.RowKit
set_option linter.unusedVariables false
set_option linter.unusedSimpArgs false
theorem read_both (S : List UInt8) : (wholeB true (buildB b0 (rdF true S 0).1) (rdF true S 0).2.1 (rdF true S 0).2.2).1.nodes = (readG S).1 ∧ (wholeB true (buildB b0 (rdF true S 0).1) (rdF true S 0).2.1 (rdF true S 0).2.2).2.1 = (readG S).2.1 ∧ (wholeB true (buildB b0 (rdF true S 0).1) (rdF true S 0).2.1 (rdF true S 0).2.2).2.2 = (readG S).2.2 := by
  have h := (whole_true S).trans (readG_F S).symm
  rw [← h]
  exact ⟨rfl, rfl, rfl⟩
theorem ReadA.nd2 {w w0 : World} {v : Value} {N : List Nd} (h : ReadA w w0 v N) (hl : N.length ≤ 1099511627776) : ∃ P, NdIn w P v N := by
  obtain ⟨K, Q, h2, h4⟩ := h
  exact ⟨_, ndin_of (Q := fun g => Q g ∨ v.ownBlock = some g) h2.own h2.kn (fun g c => Or.inl c) (fun g c => Or.inr c) (by rw [h2.kn.1]; exact hl)⟩
theorem readG_few (S : List UInt8) : (readG S).1.length ≤ S.length * 2 + 1 := by
  unfold readG
  simp only [List.length_append]
  have := feedF_few rs0 S
  have := endF_few (feedF rs0 S).2.2
  omega
theorem BuiltW.nd {w w0 : World} {s : BS} {code pl : Int} {r : Ending} (h : BuiltW w w0 s code pl r) : ∃ na nc ov P, r = .returned (.agg #[.slice na s.nodes.length nc, ov, .int .i64 code, .int .i64 pl]) ∧ (∃ oa oc, ov = .slice oa s.opn.length oc) ∧ NdIn w P (.slice na s.nodes.length nc) s.nodes := by
  obtain ⟨base, hb, ov, lv, x0, P, rfl, bd, hr, hk⟩ := h
  have h0 : x0 ∈ lv ++ [x0] := by simp
  have hn := hr.nodesR
  obtain ⟨na, nc, en⟩ := own_sl (bd.ok x0 h0)
  have hl : x0.K.length = s.nodes.length := by rw [← hn]; exact (bd.kn x0 h0).1
  rw [hl] at en
  obtain ⟨oa, oc, eo⟩ := own_sl bd.own
  refine ⟨na, nc, ov, fun g => P g ∨ x0.v.ownBlock = some g, by rw [en], ⟨oa, oc, by rw [eo, hr.openLen]⟩, ?_⟩
  have := ndin_of (Q := fun g => P g ∨ x0.v.ownBlock = some g) (bd.ok x0 h0) (bd.kn x0 h0) (fun g c => Or.inl c) (fun g c => Or.inr c) (by have := hk x0 h0; omega)
  rw [en, hn] at this
  rw [en]
  exact this
set_option maxHeartbeats 8000000 in
set_option maxRecDepth 100000 in
theorem vread_is (s : ByteArray) (w : World) (hsz : s.size ≤ 400000000) : Calls Tryd.prog 10 #[.string s] w fun r w' => ∃ v P, r = .returned (.tuple #[v, .int .i64 (readG s.data.toList).2.1, .int .i64 (readG s.data.toList).2.2]) ∧ NdIn w' P v (readG s.data.toList).1 ∧ Below w.heap.size w w' := by
  have GW := hideT (whole_is s s.data.toList rfl true w hsz)
  obtain ⟨r1, r2, r3⟩ := read_both s.data.toList
  obtain ⟨B, hBB⟩ : ∃ B, wholeB true (buildB b0 (rdF true s.data.toList 0).1) (rdF true s.data.toList 0).2.1 (rdF true s.data.toList 0).2.2 = B := ⟨_, rfl⟩
  rw [hBB] at GW r1 r2 r3
  rw [← r1, ← r2, ← r3]
  clear r1 r2 r3 hBB
  obtain ⟨s2, code, pl⟩ := B
  simp only at GW ⊢
  go_enter Tryd.func10, Tryd.ntmps10
  go_wp2_with fail
  refine GW.out.mono ?_
  rintro r w1 ⟨hbw, b1⟩
  clear GW
  obtain ⟨na, nc, ov, P, rfl, ⟨oa, oc, rfl⟩, hnd⟩ := hbw.nd
  clear hbw
  have b5 := below_alloc (w := w1) (.cells #[.slice na s2.nodes.length nc, .slice oa s2.opn.length oc, .int .i64 code, .int .i64 pl] 54)
  have q5 := Blk.new w1 #[.slice na s2.nodes.length nc, .slice oa s2.opn.length oc, .int .i64 code, .int .i64 pl] 54
  have nd5 := hnd.on b5
  have hB := b1.trans (b5.mono b1.size)
  clear b1 b5 hnd
  go_upto_region 2 with fail
  generalize w1.alloc (.cells #[.slice na s2.nodes.length nc, .slice oa s2.opn.length oc, .int .i64 code, .int .i64 pl] 54) = W at q5 nd5 hB ⊢
  generalize w1.heap.size = c5 at q5 ⊢
  have y0 := q5.cell 0
  have y2 := q5.cell 2
  have y3 := q5.cell 3
  simp only [List.getElem?_toArray, List.getElem?_cons_zero, List.getElem?_cons_succ] at y0 y2 y3
  have bD : Below W.heap.size W W.drew := (Below.refl _ _).drew
  have ky0 := below_cell bD y0
  have ky2 := below_cell bD y2
  have ky3 := below_cell bD y3
  replace nd5 := nd5.on bD
  replace hB := hB.trans (bD.mono hB.size)
  replace q5 := q5.later bD
  refine wp_region_held_drew (S := fun w' => w'.cell? ⟨c5, 0, none⟩ = some (.slice na s2.nodes.length nc) ∧ w'.cell? ⟨c5, 2, none⟩ = some (.int .i64 code) ∧ w'.cell? ⟨c5, 3, none⟩ = some (.int .i64 pl)) (by kernel_rfl) ⟨ky0, ky2, ky3⟩ (fun hHeld => ?_)
  clear ky0 ky2 ky3
  generalize W.drew = w8 at bD nd5 q5 hB hHeld ⊢
  clear bD y0 y2 y3
  refine take' 0 (v := ?_) rfl (by kernel_rfl) (by kernel_rfl) (by kernel_rfl) (fun _ _ _ h => h) (Or.inl ⟨by rfl, ?_⟩) (by assumption) ?_
  rotate_left
  · intro w9 hSw
    go_simp
    first | done | with_reducible rfl
  simp only [Act.put, List.setIfInBounds_toArray, List.set_cons_zero, List.set_cons_succ]
  refine take' 1 (v := ?_) rfl (by kernel_rfl) (by kernel_rfl) (by kernel_rfl) (fun _ _ _ h => h) (Or.inl ⟨by rfl, ?_⟩) (by assumption) ?_
  rotate_left
  · intro w9 hSw
    go_simp
    first | done | with_reducible rfl
  simp only [Act.put, List.setIfInBounds_toArray, List.set_cons_zero, List.set_cons_succ]
  refine take' 2 (v := ?_) rfl (by kernel_rfl) (by kernel_rfl) (by kernel_rfl) (fun _ _ _ h => h) (Or.inl ⟨by rfl, ?_⟩) (by assumption) ?_
  rotate_left
  · intro w9 hSw
    go_simp
    first | done | with_reducible rfl
  simp only [Act.put, List.setIfInBounds_toArray, List.set_cons_zero, List.set_cons_succ]
  refine take' 3 (v := ?_) rfl (by kernel_rfl) (by kernel_rfl) (by kernel_rfl) (fun _ _ _ h => h) (Or.inl ⟨by rfl, ?_⟩) (by assumption) ?_
  rotate_left
  · intro w9 hSw
    go_simp
    first | done | with_reducible rfl
  simp only [Act.put, List.setIfInBounds_toArray, List.set_cons_zero, List.set_cons_succ]
  refine take' 4 (v := ?_) rfl (by kernel_rfl) (by kernel_rfl) (by kernel_rfl) (fun _ _ _ h => h) (Or.inl ⟨by rfl, ?_⟩) (by assumption) ?_
  rotate_left
  · intro w9 hSw
    go_simp
    first | done | with_reducible rfl
  simp only [Act.put, List.setIfInBounds_toArray, List.set_cons_zero, List.set_cons_succ]
  refine take' 5 (v := ?_) rfl (by kernel_rfl) (by kernel_rfl) (by kernel_rfl) (fun _ _ _ h => h) (Or.inl ⟨by rfl, ?_⟩) (by assumption) ?_
  rotate_left
  · intro w9 hSw
    go_simp
    first | done | with_reducible rfl
  simp only [Act.put, List.setIfInBounds_toArray, List.set_cons_zero, List.set_cons_succ]
  refine take' 6 (v := ?_) rfl (by kernel_rfl) (by kernel_rfl) (by kernel_rfl) (fun _ _ _ h => h) (Or.inl ⟨by rfl, ?_⟩) (by assumption) ?_
  rotate_left
  · intro w9 hSw
    go_simp
    first | done | with_reducible rfl
  simp only [Act.put, List.setIfInBounds_toArray, List.set_cons_zero, List.set_cons_succ]
  refine take' 7 (v := ?_) rfl (by kernel_rfl) (by kernel_rfl) (by kernel_rfl) (fun _ _ _ h => h) (Or.inl ⟨by rfl, ?_⟩) (by assumption) ?_
  rotate_left
  · intro w9 hSw
    go_simp
    first | done | with_reducible rfl
  simp only [Act.put, List.setIfInBounds_toArray, List.set_cons_zero, List.set_cons_succ]
  refine take' 8 (v := ?_) rfl (by kernel_rfl) (by kernel_rfl) (by kernel_rfl) (fun _ _ _ h => h) (Or.inl ⟨by rfl, ?_⟩) (by assumption) ?_
  rotate_left
  · intro w9 hSw
    go_simp
    first | done | with_reducible rfl
  simp only [Act.put, List.setIfInBounds_toArray, List.set_cons_zero, List.set_cons_succ]
  refine wpAnyH_done (by kernel_rfl) ?_ _
  clear hHeld
  go_wp2
  refine bodyPost_ret (v := .tuple #[.slice na s2.nodes.length nc, .int .i64 code, .int .i64 pl]) (by rw [results_t3 rfl]; rfl) rfl ?_
  exact ⟨_, P, rfl, nd5, hB⟩

set_option maxHeartbeats 8000000 in
set_option maxRecDepth 100000 in
theorem sreads_walk (s : ByteArray) (w : World) (hsz : s.size ≤ 400000000) (hM : MaxL w) (hmx : mxB < w.heap.size) : Calls Tryd.prog 3 #[.string s] w fun e w' => e = .returned (.bool true) ∧ Below w.heap.size w w' := by
  have hrl := readG_few (s).data.toList
  rw [Array.length_toList] at hrl
  replace hrl : (readG (s).data.toList).1.length ≤ (s).size * 2 + 1 := hrl
  have G1 := hideT (read_is (s) w hsz hM hmx)
  obtain ⟨RG, hRG⟩ : ∃ RG, readG (s).data.toList = RG := ⟨_, rfl⟩
  have G2 := hideT (fun W => vread_is (s) W hsz)
  rw [hRG] at G1 hrl
  simp only [hRG] at G2
  clear hRG
  go_enter Tryd.func3, Tryd.ntmps3
  go_wp2_with fail
  refine G1.out.mono ?_
  rintro e w1 ⟨v1, rfl, ra, b1⟩
  clear G1
  obtain ⟨P1, nd1⟩ := ra.nd2 (by omega)
  clear ra
  obtain ⟨a1, c1, ev1⟩ := nd1.sl
  subst ev1
  go_wp2_with fail
  refine (G2.out _).mono ?_
  rintro e w2 ⟨v2, P2, rfl, nd2, b2⟩
  clear G2
  obtain ⟨a2, c2, ev2⟩ := nd2.sl
  subst ev2
  have nd1b := nd1.on b2
  have hB := b1.trans (b2.mono b1.size)
  have GL := hideT (lives_is w2 (hM.on hB) (Nat.lt_of_lt_of_le hmx hB.size))
  go_wp2_with fail
  refine GL.out.mono ?_
  rintro e w3 ⟨rfl, b3⟩
  have GA := hideT (alikeL (nd1b.on b3) (nd2.on b3))
  have hB3 := hB.trans (b3.mono hB.size)
  clear GL nd1 nd1b nd2 b1 b2 hB
  go_wp2_with fail
  refine GA.out.mono ?_
  rintro e w4 ⟨rfl, b4⟩
  go_wp2
  go_ret
  exact ⟨rfl, hB3.trans (b4.mono hB3.size)⟩

set_option maxHeartbeats 8000000 in
set_option maxRecDepth 100000 in
theorem deep_walk (z : Nat) (s : ByteArray) (w : World) (hz : z < 65536) (hs : s.size ≤ 300000000) (hM : MaxL w) (hmx : mxB < w.heap.size) : Calls Tryd.prog 4 #[.int .u16 z, .string s] w fun e w' => e = .returned (.bool true) ∧ Below w.heap.size w w' := by
  go_enter Tryd.func4, Tryd.ntmps4
  go_wp2_with fail
  go_loopw [5, 6] (fun v i wr => ∃ (k : Nat) (y : ByteArray), k ≤ 1003 ∧ i = .int .i64 k ∧ v = .string y ∧ y.size ≤ k ∧ wr = w) (fun v i _ => 1003 - (intOf i).toNat)
  case atStart => exact ⟨0, ⟨#[]⟩, by omega, rfl, rfl, Nat.zero_le _, rfl⟩
  case round =>
    obtain ⟨k, y, hk, rfl, rfl, hy, rfl⟩ := hrel
    by_cases hlt : k < z % 1003
    · have hlt2 : (k : Int) < (z : Int) % 1003 := by omega
      have hlt3 : (k : Int) < Int.tmod (z : Int) 1003 := by rw [Int.tmod_eq_emod_of_nonneg (by omega)]; exact hlt2
      have hk2 : k + 1 ≤ 1003 := by omega
      go_wp2
      go_roundw
      case rel => exact ⟨k + 1, _, hk2, by go_num, rfl, by simp only [ByteArray.size_append]; have h1 : (⟨#[40]⟩ : ByteArray).size = 1 := rfl; omega, by first | rfl | trivial⟩
      case measure => simp [intOf]; omega
    · have hlt2 : ¬ (k : Int) < (z : Int) % 1003 := by omega
      have hlt3 : ¬ (k : Int) < Int.tmod (z : Int) 1003 := by rw [Int.tmod_eq_emod_of_nonneg (by omega)]; exact hlt2
      have hsz : (y ++ s).size ≤ 400000000 := by rw [ByteArray.size_append]; omega
      obtain ⟨q, hq⟩ : ∃ q, y ++ s = q := ⟨_, rfl⟩
      rw [hq] at hsz
      have hrl := readG_few (q).data.toList
      rw [Array.length_toList] at hrl
      replace hrl : (readG (q).data.toList).1.length ≤ (q).size * 2 + 1 := hrl
      have G1 := hideT (read_is (q) wr hsz hM hmx)
      obtain ⟨RG, hRG⟩ : ∃ RG, readG (q).data.toList = RG := ⟨_, rfl⟩
      have G2 := hideT (fun W => vread_is (q) W hsz)
      rw [hRG] at G1 hrl
      simp only [hRG] at G2
      clear hRG
      go_upto_region 7 with fail
      try rw [hq]
      clear hq
      go_wp2_with fail
      refine G1.out.mono ?_
      rintro e w1 ⟨v1, rfl, ra, b1⟩
      clear G1
      obtain ⟨P1, nd1⟩ := ra.nd2 (by omega)
      clear ra
      obtain ⟨a1, c1, ev1⟩ := nd1.sl
      subst ev1
      go_wp2_with fail
      refine (G2.out _).mono ?_
      rintro e w2 ⟨v2, P2, rfl, nd2, b2⟩
      clear G2
      obtain ⟨a2, c2, ev2⟩ := nd2.sl
      subst ev2
      have nd1b := nd1.on b2
      have hB := b1.trans (b2.mono b1.size)
      have GL := hideT (lives_is w2 (hM.on hB) (Nat.lt_of_lt_of_le hmx hB.size))
      go_wp2_with fail
      refine GL.out.mono ?_
      rintro e w3 ⟨rfl, b3⟩
      have GA := hideT (alikeL (nd1b.on b3) (nd2.on b3))
      have hB3 := hB.trans (b3.mono hB.size)
      clear GL nd1 nd1b nd2 b1 b2 hB
      go_wp2_with fail
      refine GA.out.mono ?_
      rintro e w4 ⟨rfl, b4⟩
      go_wp2
      go_ret
      exact ⟨rfl, hB3.trans (b4.mono hB3.size)⟩

end Go.Proofs.YtibeiggedmabkaaDoor
